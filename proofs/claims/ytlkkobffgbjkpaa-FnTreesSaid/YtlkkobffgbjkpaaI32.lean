/-
  Lists of signed numbers (int32): a copy of one, whether two are alike, the marks that are laid into one, whether they lie there.
-/
import Derived.Test.YtlkkobffgbjkpaaLists
namespace Go.Proofs.Ytlkkobffgbjkpaa
open Go.RowKit Go

def iv (n : Int) : Value := .int .i32 n
/-- A list of numbers that can be read. -/
def RdI (w : World) (v : Value) (xs : List Int) : Prop :=
  ∃ (A : Option Addr) (cap : Nat), v = .slice A xs.length cap ∧ xs.length ≤ 4611686018427387904 ∧ ∀ i (h : i < xs.length), ∃ a, A = some a ∧ a.block < w.heap.size ∧ w.cell? (a.add i) = some (iv xs[i])
theorem RdI.below {w w' : World} {v : Value} {xs : List Int} (h : RdI w v xs) (hb : Below w.heap.size w w') : RdI w' v xs := by
  obtain ⟨A, cap, rfl, hl, hc⟩ := h
  refine ⟨A, cap, rfl, hl, fun i hi => ?_⟩
  obtain ⟨a, rfl, e2, e3⟩ := hc i hi
  exact ⟨a, rfl, by have := hb.size; omega, (hb.cell (by rw [addr_addb]; exact e2)).trans e3⟩
theorem RdI.of_own {w : World} {base : Nat} {e : TypeId} {v : Value} {xs : List Int} (h : w.ownsRow base e 1 v xs.length (xs.map iv)) (hl : xs.length ≤ 4611686018427387904) : RdI w v xs := by
  rcases h.2 with ⟨rfl, h0⟩ | ⟨g, cap, cur, rfl, hb, hg, hn, hm, hsz, ht⟩
  · refine ⟨none, 0, by rw [h0], hl, fun i hi => by omega⟩
  · refine ⟨_, cap, rfl, hl, fun i hi => ⟨⟨g, 0, none⟩, rfl, (Array.getElem?_eq_some_iff.1 hg).1, ?_⟩⟩
    rw [addr_lit, Nat.zero_add, cell_of_row w g i cur e (0, 0) hg]
    have h1 := congrArg (·[i]?) ht
    simpa [List.getElem?_take, hi] using h1
theorem RdI.form {w : World} {v : Value} {xs : List Int} (h : RdI w v xs) : ∃ A cap, v = .slice A xs.length cap := by
  obtain ⟨A, cap, e, -⟩ := h
  exact ⟨A, cap, e⟩
/-- A new list of numbers. -/
def NewI (w : World) (xs : List Int) (e : Ending) (w' : World) : Prop := ∃ v, e = .returned v ∧ w'.ownsRow w.heap.size 21 1 v xs.length (xs.map iv) ∧ Below w.heap.size w w'

set_option maxHeartbeats 1000000 in
theorem eqI_same (a b : Value) (xs : List Int) (w : World) (ha : RdI w a xs) (hb : RdI w b xs) :
    Calls Try.prog 77 #[a, b] w fun e w' => e = .returned (.bool true) ∧ ∃ d, w' = w.drewN d := by
  obtain ⟨A, ca, rfl, hla, hca⟩ := ha
  obtain ⟨B, cb, rfl, hlb, hcb⟩ := hb
  have HA := Lib.hid hca
  have HB := Lib.hid hcb
  clear hca hcb
  have hl' : ((xs.length : Int) != (xs.length : Int)) = false := by simp
  go_enter Try.func77, Try.ntmps77
  go_wp2
  go_loopw [5] (fun vi wr => ∃ i d : Nat, vi = .int .i64 i ∧ i ≤ xs.length ∧ Hid (wr = w.drewN d)) (fun vi _ => xs.length - (intOf vi).toNat)
  case atStart => exact ⟨0, 0, rfl, by omega, by rw [World.drewN_zero]; rfl⟩
  case round =>
    obtain ⟨i, d, rfl, hi, HW⟩ := hrel
    by_cases hp : i < xs.length
    · obtain ⟨ga, rfl, -, ha⟩ := HA.out i hp
      obtain ⟨gb, rfl, -, hb⟩ := HB.out i hp
      obtain ⟨x, hx⟩ : ∃ x, xs[i] = x := ⟨_, rfl⟩
      rw [hx] at ha hb
      have hcA : wr.cell? (ga.add i) = some (.int .i32 x) := by rw [HW.out]; exact ha
      have hcB : wr.cell? (gb.add i) = some (.int .i32 x) := by rw [HW.out]; exact hb
      have i1 : (0 : Int) ≤ (i : Int) := by omega
      have i2 : (i : Int) < (xs.length : Int) := by omega
      have hxx : (x != x) = false := by simp
      clear ha hb hx
      go_wp2
      go_quiet (fail)
      go_wp2
      go_roundw
      case rel => exact ⟨i + 1, _, by go_num, by omega, by rw [HW.out, World.drewN_drewN]; rfl⟩
      case measure => simp [intOf]; omega
    · go_wp2
      go_ret
      exact ⟨rfl, d, HW.out⟩

/-- n marks, from k on. -/
def marksI (k n : Nat) : List Int := (List.range n).map fun j => ((k + j : Nat) : Int)
theorem marksI_len (k n : Nat) : (marksI k n).length = n := by simp [marksI]
theorem marksI_succ (k i : Nat) : marksI k (i + 1) = marksI k i ++ [((k + i : Nat) : Int)] := by unfold marksI; rw [List.range_succ]; simp
theorem marksI_set {xs : List Int} {k i : Nat} (h : i < xs.length) : ((marksI k i ++ xs.drop i).map iv).set i (.int .i32 ((k : Int) + (i : Int))) = (marksI k (i + 1) ++ xs.drop (i + 1)).map iv := by
  have e : Value.int .i32 ((k : Int) + (i : Int)) = iv ((k + i : Nat) : Int) := by unfold iv; push_cast; rfl
  rw [e, marksI_succ, List.map_append, List.map_append, List.set_append_right _ _ (by simp [marksI_len]), List.length_map, marksI_len, Nat.sub_self, List.drop_eq_getElem_cons h, List.map_cons, List.set_cons_zero]
  simp
/-- Where marking stands: block g holds i marks, then what it held. -/
structure MarkedI (W wr : World) (g : Nat) (n : Nat) (xs : List Int) (k i : Nat) (cap : Nat) (cur : Array Value) : Prop where
  blk : Blk wr g 21 cur
  size : cur.size = cap
  take : cur.toList.take n = (marksI k i ++ xs.drop i).map iv
  grown : W.grownBy wr (some g)
theorem MarkedI.step {W wr : World} {g : Nat} {xs : List Int} {k i cap : Nat} {cur : Array Value} (h : MarkedI W wr g xs.length xs k i cap cur) (hi : i < xs.length) :
    MarkedI W (wr.setCell ⟨g, i, none⟩ (.int .i32 ((k : Int) + (i : Int)))) g xs.length xs k (i + 1) cap (cur.setIfInBounds i (.int .i32 ((k : Int) + (i : Int)))) := by
  refine ⟨h.blk.put _ _, by simpa using h.size, ?_, only_setCell h.grown (.inl rfl) _⟩
  rw [Array.toList_setIfInBounds, List.take_set, h.take, marksI_set hi]
theorem MarkedI.cell {W wr : World} {g n : Nat} {xs : List Int} {k i cap : Nat} {cur : Array Value} (h : MarkedI W wr g n xs k i cap cur) (hi : i < cap) : ∃ u, wr.cell? ⟨g, i, none⟩ = some u ∧ wr.frozen? ⟨g, i, none⟩ = false := by
  have hs := h.size
  exact ⟨cur[i]'(by omega), by rw [h.blk.cell, Array.getElem?_eq_getElem (by omega)], h.blk.frozen i⟩

set_option maxHeartbeats 1000000 in
theorem markI_any (base : Nat) (v : Value) (xs : List Int) (k : Nat) (h1 : k ≤ 8388608) (hx : xs.length ≤ 4194304) (W : World) (hown : W.ownsRow base 21 1 v xs.length (xs.map iv)) :
    Calls Try.prog 82 #[v, .int .i64 k] W fun e w' => e = .returned (.int .i64 ((k : Int) + xs.length)) ∧ w'.ownsRow base 21 1 v xs.length ((marksI k xs.length).map iv) ∧ W.grownBy w' v.ownBlock := by
  rcases hown.2 with ⟨rfl, hn0⟩ | ⟨g, cap, cur, rfl, hb, hg, hn, hm, hsz, ht⟩
  · have hxs : xs = [] := List.eq_nil_of_length_eq_zero hn0
    subst hxs
    clear hown
    go_enter Try.func82, Try.ntmps82
    go_wp2
    go_loop [1, 5] (fun vk vi => vk = .int .i64 k ∧ vi = .int .i64 0) (fun _ _ => 0)
    case atStart => exact ⟨rfl, rfl⟩
    case round =>
      obtain ⟨rfl, rfl⟩ := hrel
      go_wp2
      go_ret
      exact ⟨by simp, World.ownsRow_nil _ _ _ _, World.grownBy.refl _ _⟩
  · have hstart : MarkedI W W g xs.length xs k 0 cap cur := ⟨hg, by simpa using hsz, by simpa [marksI] using ht, World.grownBy.refl _ _⟩
    clear hown hsz ht hg
    unfold maxLen at hm
    go_enter Try.func82, Try.ntmps82
    go_wp2
    go_loopw [1, 5] (fun vk vi wr => ∃ (i : Nat) (cur : Array Value), vi = .int .i64 i ∧ vk = .int .i64 ((k + i : Nat) : Int) ∧ i ≤ xs.length ∧ MarkedI W wr g xs.length xs k i cap cur) (fun _ vi _ => xs.length - (intOf vi).toNat)
    case atStart => exact ⟨0, cur, rfl, rfl, by omega, hstart⟩
    case round =>
      obtain ⟨i, cur2, rfl, rfl, hi, hM⟩ := hrel
      clear hstart
      by_cases hp : i < xs.length
      · have i1 : (i : Int) < (xs.length : Int) := by omega
        obtain ⟨u, hcu, hfu⟩ := hM.cell (show i < cap by omega)
        go_wp2
        go_roundw
        case rel => exact ⟨i + 1, _, by go_num, by go_num, by omega, hM.step hp⟩
        case measure => simp [intOf]; omega
      · obtain rfl : i = xs.length := by omega
        go_wp2
        go_ret
        refine ⟨by simp, ⟨by simp [marksI_len], .inr ⟨g, cap, cur2, rfl, hb, hM.blk, hn, by unfold maxLen; omega, by simpa using hM.size, ?_⟩⟩, hM.grown⟩
        have := hM.take
        simpa using this

theorem marksI_get (k n i : Nat) (h : i < (marksI k n).length) : (marksI k n)[i] = (k : Int) + (i : Int) := by simp [marksI]
set_option maxHeartbeats 1000000 in
theorem heldI_any (v : Value) (k n : Nat) (h1 : k ≤ 8388608) (hx : n ≤ 4194304) (w : World) (ha : RdI w v (marksI k n)) :
    Calls Try.prog 87 #[v, .int .i64 k] w fun e w' => e = .returned (.int .i64 ((k : Int) + n)) ∧ w = w' := by
  obtain ⟨A, ca, rfl, hla, hca⟩ := ha
  rw [marksI_len]
  have HA : Hid (∀ i, i < n → ∃ a, A = some a ∧ w.cell? (a.add i) = some (.int .i32 ((k : Int) + (i : Int)))) := Lib.hid fun i hi => by
    obtain ⟨a, h1, -, h3⟩ := hca i (by rw [marksI_len]; exact hi)
    refine ⟨a, h1, ?_⟩
    rw [h3, marksI_get]
    rfl
  clear hca hla
  go_enter Try.func87, Try.ntmps87
  go_wp2
  go_loop [1, 5] (fun vk vi => ∃ i : Nat, vi = .int .i64 i ∧ vk = .int .i64 ((k : Int) + (i : Int)) ∧ i ≤ n) (fun _ vi => n - (intOf vi).toNat)
  case atStart => exact ⟨0, rfl, by simp, by omega⟩
  case round =>
    obtain ⟨i, rfl, rfl, hi⟩ := hrel
    by_cases hp : i < n
    · have i2 : (i : Int) < (n : Int) := by omega
      obtain ⟨a, rfl, hc⟩ := HA.out i hp
      go_wp2
      go_round
      case rel => exact ⟨i + 1, by go_num, by go_num, by omega⟩
      case measure => simp [intOf]; omega
    · obtain rfl : i = n := by omega
      go_wp2
      go_ret
      exact ⟨rfl, rfl⟩

theorem infoI : (Try.prog.info? 21).map (fun i => (i.zero, i.size, i.bytes)) = some (some (.int .i32 0), 1, 4) := by kernel_rfl
def copiedI (xs : List Int) (i : Nat) : List Int := xs.take i ++ List.replicate (xs.length - i) 0
theorem copiedI_len (xs : List Int) (i : Nat) (h : i ≤ xs.length) : (copiedI xs i).length = xs.length := by simp [copiedI]; omega
theorem copiedI_zero (xs : List Int) : (copiedI xs 0).map iv = List.replicate xs.length (.int .i32 0) := by simp [copiedI, iv]
theorem copiedI_full (xs : List Int) : copiedI xs xs.length = xs := by simp [copiedI]
theorem copiedI_set {xs : List Int} {i : Nat} (h : i < xs.length) : ((copiedI xs i).map iv).set i (.int .i32 xs[i]) = (copiedI xs (i + 1)).map iv := by
  have e : Value.int .i32 xs[i] = iv xs[i] := rfl
  rw [e, List.map_set.symm]
  congr 1
  unfold copiedI
  obtain ⟨m, hm⟩ : ∃ m, xs.length - i = m + 1 := ⟨xs.length - i - 1, by omega⟩
  rw [hm, show xs.length - (i + 1) = m by omega, List.replicate_succ, List.set_append_right _ _ (by simp; omega)]
  have : i - (xs.take i).length = 0 := by simp; omega
  rw [this, List.set_cons_zero, List.take_succ_eq_append_getElem h, List.append_assoc]
  rfl

set_option maxHeartbeats 1000000 in
theorem toI_any (v : Value) (xs : List Int) (hx : xs.length ≤ 4194304) (W : World) (ha : RdI W v xs) : Calls Try.prog 70 #[v] W (NewI W xs) := by
  obtain ⟨i0, hi, hz0, hz1, hz2⟩ := info_parts infoI
  obtain ⟨A, ca, rfl, hla, hca⟩ := ha
  have HA := Lib.hid hca
  clear hca hla
  go_enter Try.func70, Try.ntmps70
  go_wp2_with (refine wpList_make_full _ rfl _ _ _ rfl W.heap.size 21 i0 (.int .i32 0) 1 Try.underlying50 hi hz0 hz1 .i64 .i64 _ _ xs.length rfl rfl rfl rfl (by rw [hz2]; omega) (by unfold maxLen; omega) (Nat.le_refl _) ?_; intro w1 hown hgr)
  have hb1 : Below W.heap.size W w1 := (Below.refl _ _).grown hgr (Nat.le_refl _) (fun k hk => by cases hk)
  have hown1 : w1.ownsRow W.heap.size 21 1 (.slice (some ⟨W.heap.size, 0, none⟩) xs.length xs.length) xs.length ((copiedI xs 0).map iv) := by
    rw [copiedI_zero]
    rw [show (madeCells (Value.int .i32 0).cells (xs.length * 1)).toList = List.replicate xs.length (.int .i32 0) by rw [Nat.mul_one]; exact toList_madeCells_one _ _] at hown
    exact hown
  clear hown hgr
  go_loopw [4] (fun vi wr => ∃ i : Nat, vi = .int .i64 i ∧ i ≤ xs.length ∧ wr.ownsRow W.heap.size 21 1 (.slice (some ⟨W.heap.size, 0, none⟩) xs.length xs.length) xs.length ((copiedI xs i).map iv) ∧ Below W.heap.size W wr) (fun vi _ => xs.length - (intOf vi).toNat)
  case atStart => exact ⟨0, rfl, by omega, hown1, hb1⟩
  case round =>
    clear hown1 hb1
    obtain ⟨i, rfl, hi, hO, hB⟩ := hrel
    by_cases hp : i < xs.length
    · obtain ⟨ga, rfl, hgl, ha⟩ := HA.out i hp
      have hc : wr.cell? (ga.add i) = some (.int .i32 xs[i]) := (hB.cell (by rw [addr_addb]; exact hgl)).trans ha
      have i2 : (i : Int) < (xs.length : Int) := by omega
      have hd : wr.cell? ⟨W.heap.size, i, none⟩ = some (iv ((copiedI xs i)[i]'(by rw [copiedI_len xs i hi]; exact hp))) := by
        rw [hO.cellAt i (by omega)]
        simp [copiedI_len xs i hi, hp]
      have hf := hO.frozenAt i
      have hs := hO.stored i (.int .i32 xs[i])
      rw [copiedI_set hp] at hs
      have HS := Lib.hid hs
      have HB := Lib.hid hB
      clear ha hgl hs hO hB
      go_wp2
      go_roundw
      case rel => exact ⟨i + 1, by go_num, by omega, HS.out.1, HB.out.grown HS.out.2 HB.out.size (fun k hk => by injection hk with hk; omega)⟩
      case measure => simp [intOf]; omega
    · obtain rfl : i = xs.length := by omega
      rw [copiedI_full] at hO
      go_wp2
      go_ret
      exact ⟨_, rfl, hO, hB⟩
end Go.Proofs.Ytlkkobffgbjkpaa
