/-
  The laws' own helpers on lists of texts: whether two are alike, the marks that are laid into one, whether they lie there.
-/
import Derived.Test.YtfldaknhdggdiaaKit
import Derived.Test.YtfldaknhdggdiaaBlk
import Derived.Test.YtfldaknhdggdiaaDecMath
import Derived.Laws.IdiomStrings
import Derived.Deep.RegionHeld3
import Derived.Deep.DrawnRows
namespace Go.Proofs.Ytfldaknhdggdiaa
open Go.RowKit Go

/-- A list of texts that can be read. -/
def Rd (w : World) (v : Value) (xs : List ByteArray) : Prop :=
  ∃ (A : Option Addr) (cap : Nat), v = .slice A xs.length cap ∧ xs.length ≤ 4611686018427387904 ∧ ∀ i (h : i < xs.length), ∃ g, A = some ⟨g, 0, none⟩ ∧ g < w.heap.size ∧ w.cell? ⟨g, i, none⟩ = some (.string xs[i])
theorem Rd.below {w w' : World} {v : Value} {xs : List ByteArray} (h : Rd w v xs) (hb : Below w.heap.size w w') : Rd w' v xs := by
  obtain ⟨A, cap, e, hl, hc⟩ := h
  exact ⟨A, cap, e, hl, fun i hi => by obtain ⟨g, e1, e2, e3⟩ := hc i hi; exact ⟨g, e1, by have := hb.size; omega, (hb.cell (p := ⟨g, i, none⟩) e2).trans e3⟩⟩
theorem Rd.of_own {w : World} {base : Nat} {e : TypeId} {v : Value} {xs : List ByteArray} (h : w.ownsRow base e 1 v xs.length (xs.map Value.string)) (hl : xs.length ≤ 4611686018427387904) : Rd w v xs := by
  rcases h.2 with ⟨rfl, h0⟩ | ⟨g, cap, cur, rfl, hb, hg, hn, hm, hsz, ht⟩
  · refine ⟨none, 0, by rw [h0], hl, fun i hi => by omega⟩
  · refine ⟨_, cap, rfl, hl, fun i hi => ⟨g, rfl, (Array.getElem?_eq_some_iff.1 hg).1, ?_⟩⟩
    rw [cell_of_row w g i cur e (0, 0) hg]
    have h1 := congrArg (·[i]?) ht
    simpa [List.getElem?_take, hi] using h1

theorem str_ne (a b : ByteArray) (h : a ≠ b) : (a.toList == b.toList) = false := by
  rw [ByteArray.toList_eq, ByteArray.toList_eq]
  simpa using fun e => h (Go.WideShapes.bytes_inj e)

set_option maxHeartbeats 1000000 in
theorem eqstrs_any (a b : Value) (xs ys : List ByteArray) (w : World) (ha : Rd w a xs) (hb : Rd w b ys) :
    Calls Try.prog 14 #[a, b] w fun e w' => e = .returned (.bool (decide (xs = ys))) ∧ ∃ d, w' = w.drewN d := by
  obtain ⟨A, ca, rfl, hla, hca⟩ := ha
  obtain ⟨B, cb, rfl, hlb, hcb⟩ := hb
  have HA := Lib.hid hca
  have HB := Lib.hid hcb
  clear hca hcb
  by_cases hl : xs.length = ys.length
  · have hl' : ((xs.length : Int) != (ys.length : Int)) = false := by simp [hl]
    have HL := Lib.hid hl
    clear hl
    go_enter Try.func14, Try.ntmps14
    go_wp2
    go_loopw [5] (fun vi wr => ∃ i d : Nat, vi = .int .i64 i ∧ i ≤ xs.length ∧ Hid (wr = w.drewN d) ∧ Hid (∀ j (h : j < xs.length), j < i → ys[j]? = some xs[j])) (fun vi _ => xs.length - (intOf vi).toNat)
    case atStart => exact ⟨0, 0, rfl, by omega, by rw [World.drewN_zero]; rfl, fun j _ h => by omega⟩
    case round =>
      obtain ⟨i, d, rfl, hi, HW, HE⟩ := hrel
      by_cases hp : i < xs.length
      · obtain ⟨ga, rfl, -, ha⟩ := HA.out i hp
        obtain ⟨gb, rfl, -, hb⟩ := HB.out i (by have := HL.out; omega)
        have hcA : wr.cell? ⟨ga, i, none⟩ = some (.string xs[i]) := by rw [HW.out]; exact ha
        have hcB : wr.cell? ⟨gb, i, none⟩ = some (.string (ys[i]'(by have := HL.out; omega))) := by rw [HW.out]; exact hb
        have i1 : (0 : Int) ≤ (i : Int) := by omega
        have i2 : (i : Int) < (xs.length : Int) := by omega
        have i3 : (i : Int) < (ys.length : Int) := by have := HL.out; omega
        clear ha hb
        by_cases he : xs[i] = ys[i]'(by have := HL.out; omega)
        · have HE2 : Hid (∀ j (h : j < xs.length), j < i + 1 → ys[j]? = some xs[j]) := Lib.hid fun j hj h2 => by
            rcases Nat.lt_or_ge j i with h3 | h3
            · exact HE.out j hj h3
            · obtain rfl : j = i := by omega
              rw [List.getElem?_eq_getElem (by omega), he]
          rw [← he] at hcB
          clear he
          go_wp2
          go_quiet (fail)
          go_wp2
          go_roundw
          case rel => exact ⟨i + 1, _, by go_num, by omega, by rw [HW.out, World.drewN_drewN]; rfl, HE2.out⟩
          case measure => simp [intOf]; omega
        · have hne := str_ne _ _ he
          have hd : decide (xs = ys) = false := decide_eq_false fun e => he (by simp [e])
          have HD := Lib.hid hd
          clear he hd
          go_wp2
          go_quiet (fail)
          go_wp2
          go_ret
          exact ⟨by rw [HD.out]; rfl, _, by rw [HW.out, World.drewN_drewN]⟩
      · have hd : decide (xs = ys) = true := decide_eq_true (List.ext_getElem HL.out fun j h1 h2 => by
          have := HE.out j h1 (by omega)
          rw [List.getElem?_eq_getElem h2] at this
          exact (Option.some.inj this).symm)
        have HD := Lib.hid hd
        clear hd
        go_wp2
        go_ret
        exact ⟨by rw [HD.out]; rfl, d, HW.out⟩
  · have hl' : ((xs.length : Int) != (ys.length : Int)) = true := by simp; omega
    have e : decide (xs = ys) = false := by simpa using fun e => hl (by rw [e])
    rw [e]
    clear hl e
    go_enter Try.func14, Try.ntmps14
    go_wp2
    go_ret
    exact ⟨rfl, 0, by rw [World.drewN_zero]⟩

/-- The text that marks place k. -/
def mkT (k : Nat) : ByteArray := ⟨(109 :: dd k).toArray⟩
theorem mk_end {l : List UInt8} {k : Nat} (h : dd 0 ++ l = dd k) : Ending.returned (.string ((⟨#[109]⟩ : ByteArray) ++ ⟨l.toArray⟩)) = .returned (.string (mkT k)) := by
  rw [dd_zero, List.nil_append] at h
  rw [h, ByteArray.mk_append_mk]
  simp [mkT]
theorem mark_string (l : List UInt8) (c : UInt8) : Value.string ((⟨[c].toArray⟩ : ByteArray) ++ ⟨l.toArray⟩) = .string ⟨(c :: l).toArray⟩ := by
  rw [ByteArray.mk_append_mk]
  simp
set_option maxHeartbeats 1000000 in
theorem mark_any (k : Nat) (h0 : 1 ≤ k) (h1 : k < 4611686018427387904) (w : World) :
    Calls Try.prog 24 #[.int .i64 k] w fun e w' => e = .returned (.string (mkT k)) ∧ Below w.heap.size w w' := by
  have hnl := dd_length (u := k) (by omega)
  have i0 : (0 : Int) < (k : Int) := by omega
  go_enter Try.func24, Try.ntmps24
  go_wp2
  go_loopw [0, 3] (fun vk vo wr => ∃ (j : Nat) (l : List UInt8), vk = .int .i64 j ∧ vo = .string ⟨l.toArray⟩ ∧ j ≤ k ∧ Hid (dd j ++ l = dd k) ∧ Below w.heap.size w wr) (fun vk _ _ => (intOf vk).toNat)
  case atStart => exact ⟨k, [], rfl, rfl, Nat.le_refl _, Lib.hid (by simp), Below.refl _ _⟩
  case round =>
    obtain ⟨j, l, rfl, rfl, hj, HD, hB⟩ := hrel
    have hll : l.length ≤ 20 := by
      have := congrArg List.length HD.out
      simp at this; omega
    by_cases hz : j = 0
    · subst hz
      go_wp2
      go_ret
      exact ⟨mk_end HD.out, hB⟩
    · have i1 : (0 : Int) < (j : Int) := by omega
      have hcu : (48 + (j : Int) % 10) % 256 = 48 + (j : Int) % 10 := by omega
      have hu8 : (((UInt8.ofNat (48 + j % 10)).toNat : Nat) : Int) = 48 + (j : Int) % 10 := by rw [UInt8.toNat_ofNat']; omega
      obtain ⟨c, hcd⟩ : ∃ c, c = UInt8.ofNat (48 + j % 10) := ⟨_, rfl⟩
      have HD2 : Hid (dd (j / 10) ++ c :: l = dd k) := Lib.hid (by have h := HD.out; rw [dd_step hz] at h; rw [hcd]; simpa using h)
      rw [← hcd] at hu8
      clear hcd
      have hcv := run_convert_bytes_back (P := Try.prog) (wr.alloc (.cells #[.int .u8 (48 + (j : Int) % 10)] 5)) 22 9 5 ⟨wr.heap.size, 0, none⟩ 1 [c] Try.underlying22 Try.underlying5 Try.underlying9 (fun i hi => by
        obtain rfl : i = 0 := by simpa using hi
        rw [show (⟨wr.heap.size, 0, none⟩ : Addr).add 0 = ⟨wr.heap.size, 0, none⟩ from rfl, World.cell?_alloc_new, List.getElem_cons_zero, hu8]
        rfl)
      simp only [List.length_cons, List.length_nil, Nat.zero_add] at hcv
      clear hu8
      have hst := mark_string l c
      have HS := Lib.hid hst
      clear hst
      go_wp2
      go_roundw
      case rel => exact ⟨j / 10, _, by go_num, HS.out, by omega, HD2.out, hB.alloc hB.size _⟩
      case measure => simp [intOf]; omega

/-- n marks, from k on. -/
def marks (k n : Nat) : List ByteArray := (List.range n).map fun j => mkT (k + j)
theorem marks_len (k n : Nat) : (marks k n).length = n := by simp [marks]
theorem marks_at (k n j : Nat) (h : j < n) : (marks k n)[j]'(by rw [marks_len]; exact h) = mkT (k + j) := by simp [marks]
theorem infoStr : (Try.prog.info? 9).map (fun i => (i.zero, i.size, i.bytes)) = some (some (.string ⟨#[]⟩), 1, 16) := by kernel_rfl

attribute [local go_sem ↓] Go.wp_at_zero Go.wp_at_succ
theorem keep_old {w W1 W2 : World} {a : Addr} {v : Value} (hl : a.block < w.heap.size) (hc : w.cell? a = some v) (h1 : Below w.heap.size w W1) (h2 : Below W1.heap.size W1 W2) : W2.cell? a = some v ∧ Below w.heap.size w W2 :=
  have h3 := h1.trans (h2.mono h1.size)
  ⟨(h3.cell hl).trans hc, h3⟩

/-- Whether the marks lie in a list. -/
def heldAt (xs : List ByteArray) (k : Nat) : Int := if xs = marks k xs.length then (k : Int) + xs.length else -1
set_option maxHeartbeats 1000000 in
theorem held_any (v : Value) (xs : List ByteArray) (k : Nat) (h0 : 1 ≤ k) (h1 : k ≤ 4194304) (hx : xs.length ≤ 4194304) (w : World) (ha : Rd w v xs) :
    Calls Try.prog 16 #[v, .int .i64 k] w fun e w' => e = .returned (.int .i64 (heldAt xs k)) ∧ Below w.heap.size w w' := by
  obtain ⟨A, ca, rfl, hla, hca⟩ := ha
  have HA := Lib.hid hca
  clear hca hla
  go_enter Try.func16, Try.ntmps16
  go_wp2
  go_loopw [1, 5] (fun vk vi wr => ∃ i : Nat, vi = .int .i64 i ∧ vk = .int .i64 ((k + i : Nat) : Int) ∧ i ≤ xs.length ∧ Hid (∀ j (h : j < xs.length), j < i → xs[j] = mkT (k + j)) ∧ Below w.heap.size w wr) (fun _ vi _ => xs.length - (intOf vi).toNat)
  case atStart => exact ⟨0, rfl, rfl, by omega, fun j _ h => by omega, Below.refl _ _⟩
  case round =>
    obtain ⟨i, rfl, rfl, hi, HE, hB⟩ := hrel
    by_cases hp : i < xs.length
    · obtain ⟨ga, rfl, hgl, ha⟩ := HA.out i hp
      have i1 : (0 : Int) ≤ (i : Int) := by omega
      have i2 : (i : Int) < (xs.length : Int) := by omega
      have hc : wr.cell? ⟨ga, i, none⟩ = some (.string xs[i]) := (hB.cell (p := ⟨ga, i, none⟩) hgl).trans ha
      have HG := Lib.hid hgl
      have HCC := Lib.hid ha
      have hki : ((k + i : Nat) : Int) = (k : Int) + (i : Int) := by omega
      have MK : ∀ W, Calls Try.prog 24 #[.int .i64 ((k : Int) + (i : Int))] W fun e w' => e = .returned (.string (mkT (k + i))) ∧ Below W.heap.size W w' := fun W => by
        rw [← hki]; exact mark_any (k + i) (by omega) (by omega) W
      have HMK := Lib.hid MK
      clear ha hgl MK hki
      by_cases he : xs[i] = mkT (k + i)
      · have HE2 : Hid (∀ j (h : j < xs.length), j < i + 1 → xs[j] = mkT (k + j)) := Lib.hid fun j hj h2 => by
          rcases Nat.lt_or_ge j i with h3 | h3
          · exact HE.out j hj h3
          · obtain rfl : j = i := by omega
            exact he
        have HCC2 := HCC.out
        rw [he] at hc HCC2
        have HCC := Lib.hid HCC2
        clear he HCC2
        go_wp2_with fail
        go_region_held3 (fun w' => w'.cell? ⟨ga, i, none⟩ = some (.string (mkT (k + i))) ∧ Below w.heap.size w w') (first | exact ⟨hc, hB.drew⟩ | go_keep | exact keep_old HG.out HCC.out hB.drew hb2) (first | (go_at_call 24; refine (HMK.out _).mono ?_; rintro e w2 ⟨rfl, hb2⟩))
        go_wp2
        go_roundw
        case rel => exact ⟨i + 1, by go_num, by go_num, by omega, HE2.out, hB.drew.trans (hb2.mono hB.size)⟩
        case measure => simp [intOf]; omega
      · have hne := str_ne _ _ he
        have HN : Hid (heldAt xs k = -1) := Lib.hid (by
          unfold heldAt
          rw [if_neg]
          intro e
          have h2 : (marks k xs.length)[i]'(by rw [marks_len]; exact hp) = mkT (k + i) := marks_at k xs.length i hp
          exact he (by rw [← h2]; congr 1))
        clear he
        go_wp2_with fail
        go_region_held3 (fun w' => w'.cell? ⟨ga, i, none⟩ = some (.string xs[i]) ∧ Below w.heap.size w w') (first | exact ⟨hc, hB.drew⟩ | go_keep | exact keep_old HG.out HCC.out hB.drew hb2) (first | (go_at_call 24; refine (HMK.out _).mono ?_; rintro e w2 ⟨rfl, hb2⟩))
        go_wp2
        go_ret
        exact ⟨by rw [HN.out]; rfl, hB.drew.trans (hb2.mono hB.size)⟩
    · have HN : Hid (heldAt xs k = ((k + i : Nat) : Int)) := Lib.hid (by
        unfold heldAt
        rw [if_pos]
        · omega
        · refine List.ext_getElem (by rw [marks_len]) fun j h2 h3 => ?_
          rw [marks_at k xs.length j h2]
          exact HE.out j h2 (by omega))
      go_wp2
      go_ret
      exact ⟨by rw [HN.out]; rfl, hB⟩

theorem marks_succ (k i : Nat) : marks k (i + 1) = marks k i ++ [mkT (k + i)] := by unfold marks; rw [List.range_succ]; simp
theorem marks_set {xs : List ByteArray} {k i : Nat} (h : i < xs.length) : ((marks k i ++ xs.drop i).map Value.string).set i (.string (mkT (k + i))) = (marks k (i + 1) ++ xs.drop (i + 1)).map Value.string := by
  rw [marks_succ, List.map_append, List.map_append, List.set_append_right _ _ (by simp [marks_len]), List.length_map, marks_len, Nat.sub_self, List.drop_eq_getElem_cons h, List.map_cons, List.set_cons_zero]
  simp
/-- Where marking stands: block g holds i marks, then what it held. -/
structure Marked (W wr : World) (g : Nat) (n : Nat) (xs : List ByteArray) (k i : Nat) (cap : Nat) (cur : Array Value) : Prop where
  blk : Blk wr g 9 cur
  size : cur.size = cap
  take : cur.toList.take n = (marks k i ++ xs.drop i).map Value.string
  grown : W.grownBy wr (some g)
theorem Marked.step {W wr w2 : World} {g : Nat} {xs : List ByteArray} {k i cap : Nat} {cur : Array Value} (h : Marked W wr g xs.length xs k i cap cur) (hi : i < xs.length) (hb : Below wr.heap.size wr w2) :
    Marked W (w2.setCell ⟨g, i, none⟩ (.string (mkT (k + i)))) g xs.length xs k (i + 1) cap (cur.setIfInBounds i (.string (mkT (k + i)))) := by
  refine ⟨(h.blk.below hb h.blk.lt).put _ _, by simpa using h.size, ?_, only_setCell (only_trans h.grown (only_of_below hb _)) (.inl rfl) _⟩
  rw [Array.toList_setIfInBounds, List.take_set, h.take, marks_set hi]
theorem Marked.cell {W wr w2 : World} {g n : Nat} {xs : List ByteArray} {k i cap : Nat} {cur : Array Value} (h : Marked W wr g n xs k i cap cur) (hi : i < cap) (hb : Below wr.heap.size wr w2) : ∃ u, w2.cell? ⟨g, i, none⟩ = some u ∧ w2.frozen? ⟨g, i, none⟩ = false := by
  have h2 := h.blk.below hb h.blk.lt
  have hs := h.size
  exact ⟨cur[i]'(by omega), by rw [h2.cell, Array.getElem?_eq_getElem (by omega)], h2.frozen i⟩

set_option maxHeartbeats 1000000 in
theorem markS_any (base : Nat) (v : Value) (xs : List ByteArray) (k : Nat) (h0 : 1 ≤ k) (h1 : k ≤ 4194304) (hx : xs.length ≤ 4194304) (W : World) (hown : W.ownsRow base 9 1 v xs.length (xs.map Value.string)) :
    Calls Try.prog 15 #[v, .int .i64 k] W fun e w' => e = .returned (.int .i64 ((k : Int) + xs.length)) ∧ w'.ownsRow base 9 1 v xs.length ((marks k xs.length).map Value.string) ∧ W.grownBy w' v.ownBlock := by
  rcases hown.2 with ⟨rfl, hn0⟩ | ⟨g, cap, cur, rfl, hb, hg, hn, hm, hsz, ht⟩
  · have hxs : xs = [] := List.eq_nil_of_length_eq_zero hn0
    subst hxs
    clear hown
    go_enter Try.func15, Try.ntmps15
    go_wp2
    go_loop [1, 5] (fun vk vi => vk = .int .i64 k ∧ vi = .int .i64 0) (fun _ _ => 0)
    case atStart => exact ⟨rfl, rfl⟩
    case round =>
      obtain ⟨rfl, rfl⟩ := hrel
      go_wp2
      go_ret
      exact ⟨by simp, World.ownsRow_nil _ _ _ _, World.grownBy.refl _ _⟩
  · have hstart : Marked W W g xs.length xs k 0 cap cur := ⟨hg, by simpa using hsz, by simpa [marks] using ht, World.grownBy.refl _ _⟩
    clear hown hsz ht hg
    unfold maxLen at hm
    go_enter Try.func15, Try.ntmps15
    go_wp2
    go_loopw [1, 5] (fun vk vi wr => ∃ (i : Nat) (cur : Array Value), vi = .int .i64 i ∧ vk = .int .i64 ((k + i : Nat) : Int) ∧ i ≤ xs.length ∧ Marked W wr g xs.length xs k i cap cur) (fun _ vi _ => xs.length - (intOf vi).toNat)
    case atStart => exact ⟨0, cur, rfl, rfl, by omega, hstart⟩
    case round =>
      obtain ⟨i, cur2, rfl, rfl, hi, hM⟩ := hrel
      clear hstart
      by_cases hp : i < xs.length
      · have i1 : (i : Int) < (xs.length : Int) := by omega
        have hki : ((k + i : Nat) : Int) = (k : Int) + (i : Int) := by omega
        have MK : ∀ W, Calls Try.prog 24 #[.int .i64 ((k : Int) + (i : Int))] W fun e w' => e = .returned (.string (mkT (k + i))) ∧ Below W.heap.size W w' := fun W => by
          rw [← hki]; exact mark_any (k + i) (by omega) (by omega) W
        have HMK := Lib.hid MK
        clear MK hki
        go_wp2_with (go_at_call 24; refine (HMK.out _).mono ?_; rintro e w2 ⟨rfl, hb2⟩; obtain ⟨u, hcu, hfu⟩ := hM.cell (show i < cap by omega) hb2)
        go_roundw
        case rel => exact ⟨i + 1, _, by go_num, by go_num, by omega, hM.step hp hb2⟩
        case measure => simp [intOf]; omega
      · obtain rfl : i = xs.length := by omega
        go_wp2
        go_ret
        refine ⟨by simp, ⟨by simp [marks_len], .inr ⟨g, cap, cur2, rfl, hb, hM.blk, hn, by unfold maxLen; omega, by simpa using hM.size, ?_⟩⟩, hM.grown⟩
        have := hM.take
        simpa using this
end Go.Proofs.Ytfldaknhdggdiaa
