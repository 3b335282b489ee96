/-
  Bytes, as numbers: whether two lists are alike, a copy of one, the marks that are laid into one, whether they lie there.
-/
import Derived.Test.YtlkkobffgbjkpaaExKit
namespace Go.Proofs.Ytlkkobffgbjkpaa
open Go.RowKit Go

def b8v (n : Nat) : Value := .int .u8 (n : Int)
/-- Bytes that can be read, as numbers. -/
def RdM (w : World) (v : Value) (xs : List Nat) : Prop :=
  ∃ (A : Option Addr) (cap : Nat), v = .slice A xs.length cap ∧ xs.length ≤ 4611686018427387904 ∧ ∀ i (h : i < xs.length), ∃ a, A = some a ∧ a.block < w.heap.size ∧ w.cell? (a.add i) = some (b8v xs[i])
theorem RdM.keep {w w' : World} {v : Value} {xs : List Nat} (h : RdM w v xs) (hs : w.heap.size ≤ w'.heap.size) (hk : ∀ p : Addr, p.block < w.heap.size → (∃ a, v = .slice (some a) xs.length (match v with | .slice _ _ c => c | _ => 0) ∧ p.block = a.block) → w'.cell? p = w.cell? p) : RdM w' v xs := by
  obtain ⟨A, cap, rfl, hl, hc⟩ := h
  refine ⟨A, cap, rfl, hl, fun i hi => ?_⟩
  obtain ⟨a, rfl, e2, e3⟩ := hc i hi
  exact ⟨a, rfl, by omega, (hk _ (by rw [addr_addb]; exact e2) ⟨a, rfl, addr_addb _ _⟩).trans e3⟩
theorem RdM.below {w w' : World} {v : Value} {xs : List Nat} (h : RdM w v xs) (hb : Below w.heap.size w w') : RdM w' v xs := h.keep hb.size fun _ hp _ => hb.cell hp
theorem RdM.of_own {w : World} {base : Nat} {e : TypeId} {v : Value} {xs : List Nat} (h : w.ownsRow base e 1 v xs.length (xs.map b8v)) (hl : xs.length ≤ 4611686018427387904) : RdM w v xs := by
  rcases h.2 with ⟨rfl, h0⟩ | ⟨g, cap, cur, rfl, hb, hg, hn, hm, hsz, ht⟩
  · refine ⟨none, 0, by rw [h0], hl, fun i hi => by omega⟩
  · refine ⟨_, cap, rfl, hl, fun i hi => ⟨⟨g, 0, none⟩, rfl, (Array.getElem?_eq_some_iff.1 hg).1, ?_⟩⟩
    rw [addr_lit, Nat.zero_add, cell_of_row w g i cur e (0, 0) hg]
    have h1 := congrArg (·[i]?) ht
    simpa [List.getElem?_take, hi] using h1
/-- New bytes. -/
def NewM (w : World) (xs : List Nat) (e : Ending) (w' : World) : Prop := ∃ v, e = .returned v ∧ w'.ownsRow w.heap.size 5 1 v xs.length (xs.map b8v) ∧ Below w.heap.size w w'
set_option maxHeartbeats 1000000 in
theorem eqb_any (a b : Value) (xs ys : List Nat) (w : World) (ha : RdM w a xs) (hb : RdM w b ys) :
    Calls Try.prog 81 #[a, b] w fun e w' => e = .returned (.bool (decide (xs = ys))) ∧ ∃ d, w' = w.drewN d := by
  obtain ⟨A, ca, rfl, hla, hca⟩ := ha
  obtain ⟨B, cb, rfl, hlb, hcb⟩ := hb
  have HA := Lib.hid hca
  have HB := Lib.hid hcb
  clear hca hcb
  by_cases hl : xs.length = ys.length
  · have hl' : ((xs.length : Int) != (ys.length : Int)) = false := by simp [hl]
    have HL := Lib.hid hl
    clear hl
    go_enter Try.func81, Try.ntmps81
    go_wp2
    go_loopw [5] (fun vi wr => ∃ i d : Nat, vi = .int .i64 i ∧ i ≤ xs.length ∧ Hid (wr = w.drewN d) ∧ Hid (∀ j (h : j < xs.length), j < i → ys[j]? = some xs[j])) (fun vi _ => xs.length - (intOf vi).toNat)
    case atStart => exact ⟨0, 0, rfl, by omega, by rw [World.drewN_zero]; rfl, fun j _ h => by omega⟩
    case round =>
      obtain ⟨i, d, rfl, hi, HW, HE⟩ := hrel
      by_cases hp : i < xs.length
      · obtain ⟨ga, rfl, -, ha⟩ := HA.out i hp
        obtain ⟨gb, rfl, -, hb⟩ := HB.out i (by have := HL.out; omega)
        have hcA : wr.cell? (ga.add i) = some (.int .u8 (xs[i] : Int)) := by rw [HW.out]; exact ha
        have hcB : wr.cell? (gb.add i) = some (.int .u8 ((ys[i]'(by have := HL.out; omega) : Nat) : Int)) := by rw [HW.out]; exact hb
        have i1 : (0 : Int) ≤ (i : Int) := by omega
        have i2 : (i : Int) < (xs.length : Int) := by omega
        have i3 : (i : Int) < (ys.length : Int) := by have := HL.out; omega
        clear ha hb
        by_cases he : xs[i] = ys[i]'(by have := HL.out; omega)
        · have HE2 : Hid (∀ j (h : j < xs.length), j < i + 1 → ys[j]? = some xs[j]) := Lib.hid fun j hj h2 => by
            rcases Nat.lt_or_ge j i with h3 | h3
            · exact HE.out j hj h3
            · obtain rfl : j = i := by omega
              rw [List.getElem?_eq_getElem (by omega), he]
          rw [← he] at hcB
          clear he
          go_wp2
          go_quiet (fail)
          go_wp2
          go_roundw
          case rel => exact ⟨i + 1, _, by go_num, by omega, by rw [HW.out, World.drewN_drewN]; rfl, HE2.out⟩
          case measure => simp [intOf]; omega
        · have hne := u32_bne he
          have hd : decide (xs = ys) = false := decide_eq_false fun e => he (by simp [e])
          have HD := Lib.hid hd
          clear he hd
          go_wp2
          go_quiet (fail)
          go_wp2
          go_ret
          exact ⟨by rw [HD.out]; rfl, _, by rw [HW.out, World.drewN_drewN]⟩
      · have hd : decide (xs = ys) = true := decide_eq_true (List.ext_getElem HL.out fun j h1 h2 => by
          have := HE.out j h1 (by omega)
          rw [List.getElem?_eq_getElem h2] at this
          exact (Option.some.inj this).symm)
        have HD := Lib.hid hd
        clear hd
        go_wp2
        go_ret
        exact ⟨by rw [HD.out]; rfl, d, HW.out⟩
  · have hl' : ((xs.length : Int) != (ys.length : Int)) = true := by simp; omega
    have e : decide (xs = ys) = false := by simpa using fun e => hl (by rw [e])
    rw [e]
    clear hl e
    go_enter Try.func81, Try.ntmps81
    go_wp2
    go_ret
    exact ⟨rfl, 0, by rw [World.drewN_zero]⟩

/-- n marks, from k on. -/
def marksB (k n : Nat) : List Nat := (List.range n).map fun j => (k + j) % 256
theorem marksB_len (k n : Nat) : (marksB k n).length = n := by simp [marksB]
theorem marksB_succ (k i : Nat) : marksB k (i + 1) = marksB k i ++ [(k + i) % 256] := by unfold marksB; rw [List.range_succ, List.map_append, List.map_cons, List.map_nil]
theorem marksB_set {xs : List Nat} {k i : Nat} (h : i < xs.length) : ((marksB k i ++ xs.drop i).map b8v).set i (.int .u8 (((k : Int) + (i : Int)) % 256)) = (marksB k (i + 1) ++ xs.drop (i + 1)).map b8v := by
  have e : Value.int .u8 (((k : Int) + (i : Int)) % 256) = b8v ((k + i) % 256) := congrArg (Value.int .u8) (by omega)
  rw [e, marksB_succ, List.map_append, List.map_append, List.set_append_right _ _ (by simp [marksB_len]), List.length_map, marksB_len, Nat.sub_self, List.drop_eq_getElem_cons h, List.map_cons, List.set_cons_zero]
  simp
/-- Where marking stands: block g holds i marks, then what it held. -/
structure MarkedB (W wr : World) (g : Nat) (n : Nat) (xs : List Nat) (k i : Nat) (cap : Nat) (cur : Array Value) : Prop where
  blk : Blk wr g 5 cur
  size : cur.size = cap
  take : cur.toList.take n = (marksB k i ++ xs.drop i).map b8v
  grown : W.grownBy wr (some g)
theorem MarkedB.step {W wr : World} {g : Nat} {xs : List Nat} {k i cap : Nat} {cur : Array Value} (h : MarkedB W wr g xs.length xs k i cap cur) (hi : i < xs.length) :
    MarkedB W (wr.setCell ⟨g, i, none⟩ (.int .u8 (((k : Int) + (i : Int)) % 256))) g xs.length xs k (i + 1) cap (cur.setIfInBounds i (.int .u8 (((k : Int) + (i : Int)) % 256))) := by
  refine ⟨h.blk.put _ _, by simpa using h.size, ?_, only_setCell h.grown (.inl rfl) _⟩
  rw [Array.toList_setIfInBounds, List.take_set, h.take, marksB_set hi]
theorem MarkedB.cell {W wr : World} {g n : Nat} {xs : List Nat} {k i cap : Nat} {cur : Array Value} (h : MarkedB W wr g n xs k i cap cur) (hi : i < cap) : ∃ u, wr.cell? ⟨g, i, none⟩ = some u ∧ wr.frozen? ⟨g, i, none⟩ = false := by
  have hs := h.size
  exact ⟨cur[i]'(by omega), by rw [h.blk.cell, Array.getElem?_eq_getElem (by omega)], h.blk.frozen i⟩

set_option maxHeartbeats 1000000 in
theorem markb_any (base : Nat) (v : Value) (xs : List Nat) (k : Nat) (h1 : k ≤ 4194304) (hx : xs.length ≤ 4194304) (W : World) (hown : W.ownsRow base 5 1 v xs.length (xs.map b8v)) :
    Calls Try.prog 86 #[v, .int .i64 k] W fun e w' => e = .returned (.int .i64 ((k : Int) + xs.length)) ∧ w'.ownsRow base 5 1 v xs.length ((marksB k xs.length).map b8v) ∧ W.grownBy w' v.ownBlock := by
  rcases hown.2 with ⟨rfl, hn0⟩ | ⟨g, cap, cur, rfl, hb, hg, hn, hm, hsz, ht⟩
  · have hxs : xs = [] := List.eq_nil_of_length_eq_zero hn0
    subst hxs
    clear hown
    go_enter Try.func86, Try.ntmps86
    go_wp2
    go_loop [1, 5] (fun vk vi => vk = .int .i64 k ∧ vi = .int .i64 0) (fun _ _ => 0)
    case atStart => exact ⟨rfl, rfl⟩
    case round =>
      obtain ⟨rfl, rfl⟩ := hrel
      go_wp2
      go_ret
      exact ⟨by simp, World.ownsRow_nil _ _ _ _, World.grownBy.refl _ _⟩
  · have hstart : MarkedB W W g xs.length xs k 0 cap cur := ⟨hg, by simpa using hsz, by simpa [marksB] using ht, World.grownBy.refl _ _⟩
    clear hown hsz ht hg
    unfold maxLen at hm
    go_enter Try.func86, Try.ntmps86
    go_wp2
    go_loopw [1, 5] (fun vk vi wr => ∃ (i : Nat) (cur : Array Value), vi = .int .i64 i ∧ vk = .int .i64 ((k + i : Nat) : Int) ∧ i ≤ xs.length ∧ MarkedB W wr g xs.length xs k i cap cur) (fun _ vi _ => xs.length - (intOf vi).toNat)
    case atStart => exact ⟨0, cur, rfl, rfl, by omega, hstart⟩
    case round =>
      obtain ⟨i, cur2, rfl, rfl, hi, hM⟩ := hrel
      clear hstart
      by_cases hp : i < xs.length
      · have i1 : (i : Int) < (xs.length : Int) := by omega
        obtain ⟨u, hcu, hfu⟩ := hM.cell (show i < cap by omega)
        go_wp2
        go_roundw
        case rel => exact ⟨i + 1, _, by go_num, by go_num, by omega, hM.step hp⟩
        case measure => simp [intOf]; omega
      · obtain rfl : i = xs.length := by omega
        go_wp2
        go_ret
        refine ⟨by simp, ⟨by simp [marksB_len], .inr ⟨g, cap, cur2, rfl, hb, hM.blk, hn, by unfold maxLen; omega, by simpa using hM.size, ?_⟩⟩, hM.grown⟩
        have := hM.take
        simpa using this

theorem infoB8 : (Try.prog.info? 5).map (fun i => (i.zero, i.size, i.bytes)) = some (some (.int .u8 0), 1, 1) := by kernel_rfl
def copiedB (xs : List Nat) (i : Nat) : List Nat := xs.take i ++ List.replicate (xs.length - i) 0
theorem copiedB_len (xs : List Nat) (i : Nat) (h : i ≤ xs.length) : (copiedB xs i).length = xs.length := by simp [copiedB]; omega
theorem copiedB_zero (xs : List Nat) : (copiedB xs 0).map b8v = List.replicate xs.length (.int .u8 0) := by simp [copiedB, b8v]
theorem copiedB_full (xs : List Nat) : copiedB xs xs.length = xs := by simp [copiedB]
theorem copiedB_set {xs : List Nat} {i : Nat} (h : i < xs.length) : ((copiedB xs i).map b8v).set i (.int .u8 (xs[i] : Int)) = (copiedB xs (i + 1)).map b8v := by
  have e : Value.int .u8 (xs[i] : Int) = b8v xs[i] := rfl
  rw [e, List.map_set.symm]
  congr 1
  unfold copiedB
  obtain ⟨m, hm⟩ : ∃ m, xs.length - i = m + 1 := ⟨xs.length - i - 1, by omega⟩
  rw [hm, show xs.length - (i + 1) = m by omega, List.replicate_succ, List.set_append_right _ _ (by simp; omega)]
  have : i - (xs.take i).length = 0 := by simp; omega
  rw [this, List.set_cons_zero, List.take_succ_eq_append_getElem h, List.append_assoc]
  rfl

set_option maxHeartbeats 1000000 in
theorem tob_any (v : Value) (xs : List Nat) (hx : xs.length ≤ 4194304) (W : World) (ha : RdM W v xs) : Calls Try.prog 74 #[v] W (NewM W xs) := by
  obtain ⟨i0, hi, hz0, hz1, hz2⟩ := info_parts infoB8
  obtain ⟨A, ca, rfl, hla, hca⟩ := ha
  have HA := Lib.hid hca
  clear hca hla
  go_enter Try.func74, Try.ntmps74
  go_wp2_with (refine wpList_make_full _ rfl _ _ _ rfl W.heap.size 5 i0 (.int .u8 0) 1 Try.underlying22 hi hz0 hz1 .i64 .i64 _ _ xs.length rfl rfl rfl rfl (by rw [hz2]; omega) (by unfold maxLen; omega) (Nat.le_refl _) ?_; intro w1 hown hgr)
  have hb1 : Below W.heap.size W w1 := (Below.refl _ _).grown hgr (Nat.le_refl _) (fun k hk => by cases hk)
  have hown1 : w1.ownsRow W.heap.size 5 1 (.slice (some ⟨W.heap.size, 0, none⟩) xs.length xs.length) xs.length ((copiedB xs 0).map b8v) := by
    rw [copiedB_zero]
    rw [show (madeCells (Value.int .u8 0).cells (xs.length * 1)).toList = List.replicate xs.length (.int .u8 0) by rw [Nat.mul_one]; exact toList_madeCells_one _ _] at hown
    exact hown
  clear hown hgr
  go_loopw [4] (fun vi wr => ∃ i : Nat, vi = .int .i64 i ∧ i ≤ xs.length ∧ wr.ownsRow W.heap.size 5 1 (.slice (some ⟨W.heap.size, 0, none⟩) xs.length xs.length) xs.length ((copiedB xs i).map b8v) ∧ Below W.heap.size W wr) (fun vi _ => xs.length - (intOf vi).toNat)
  case atStart => exact ⟨0, rfl, by omega, hown1, hb1⟩
  case round =>
    clear hown1 hb1
    obtain ⟨i, rfl, hi, hO, hB⟩ := hrel
    by_cases hp : i < xs.length
    · obtain ⟨ga, rfl, hgl, ha⟩ := HA.out i hp
      have hc : wr.cell? (ga.add i) = some (.int .u8 (xs[i] : Int)) := (hB.cell (by rw [addr_addb]; exact hgl)).trans ha
      have i2 : (i : Int) < (xs.length : Int) := by omega
      have hd : wr.cell? ⟨W.heap.size, i, none⟩ = some (b8v ((copiedB xs i)[i]'(by rw [copiedB_len xs i hi]; exact hp))) := by
        rw [hO.cellAt i (by omega)]
        simp [copiedB_len xs i hi, hp]
      have hf := hO.frozenAt i
      have hs := hO.stored i (.int .u8 (xs[i] : Int))
      rw [copiedB_set hp] at hs
      have HS := Lib.hid hs
      have HB := Lib.hid hB
      clear ha hgl hs hO hB
      go_wp2
      go_roundw
      case rel => exact ⟨i + 1, by go_num, by omega, HS.out.1, HB.out.grown HS.out.2 HB.out.size (fun k hk => by injection hk with hk; omega)⟩
      case measure => simp [intOf]; omega
    · obtain rfl : i = xs.length := by omega
      rw [copiedB_full] at hO
      go_wp2
      go_ret
      exact ⟨_, rfl, hO, hB⟩
theorem rd_own8 {w : World} {base : Nat} {e : TypeId} {v : Value} {n : Nat} {ls : List Nat} (h : w.ownsRow base e 1 v n (ls.map b8v)) (hl : n ≤ 4611686018427387904) : RdM w v ls := by
  have hn : ls.length = n := by have := h.1; simpa using this
  subst hn
  exact RdM.of_own h hl
theorem RdM.form {w : World} {v : Value} {xs : List Nat} (h : RdM w v xs) : ∃ A cap, v = .slice A xs.length cap := by
  obtain ⟨A, cap, e, -⟩ := h
  exact ⟨A, cap, e⟩
theorem RdM.small {w : World} {v : Value} {xs : List Nat} (h : RdM w v xs) : xs.length ≤ 4611686018427387904 := by
  obtain ⟨_, _, _, hl, _⟩ := h
  exact hl
theorem eqb_same (a b : Value) (xs : List Nat) (w : World) (ha : RdM w a xs) (hb : RdM w b xs) : Calls Try.prog 81 #[a, b] w fun e w' => e = .returned (.bool true) ∧ Below w.heap.size w w' := by
  have h := eqb_any a b xs xs w ha hb
  rw [decide_eq_true rfl] at h
  exact h.mono fun e w' ⟨h1, d, h2⟩ => ⟨h1, by rw [h2]; exact below_drewN (Below.refl _ _) d⟩
theorem markb1 (base : Nat) (v : Value) (xs : List Nat) (hx : xs.length ≤ 4194304) (W : World) (hown : W.ownsRow base 5 1 v xs.length (xs.map b8v)) :
    Calls Try.prog 86 #[v, .int .i64 1] W fun e w' => e = .returned (.int .i64 (1 + (xs.length : Int))) ∧ w'.ownsRow base 5 1 v xs.length ((marksB 1 xs.length).map b8v) ∧ W.grownBy w' v.ownBlock := markb_any base v xs 1 (by omega) hx W hown
set_option maxHeartbeats 1000000 in
theorem heldb1 (v : Value) (n : Nat) (hx : n ≤ 4194304) (w : World) (ha : RdM w v (marksB 1 n)) :
    Calls Try.prog 91 #[v, .int .i64 1] w fun e w' => e = .returned (.int .i64 (1 + (n : Int))) ∧ Below w.heap.size w w' := by
  obtain ⟨A, ca, rfl, hla, hca⟩ := ha
  rw [marksB_len]
  have HA : Hid (∀ i, i < n → ∃ a, A = some a ∧ w.cell? (a.add i) = some (.int .u8 ((1 + (i : Int)) % 256))) := Lib.hid fun i hi => by
    obtain ⟨a, h1, -, h3⟩ := hca i (by rw [marksB_len]; exact hi)
    refine ⟨a, h1, ?_⟩
    rw [h3]
    simp [b8v, marksB]
  clear hca hla
  go_enter Try.func91, Try.ntmps91
  go_wp2
  go_loop [1, 5] (fun vk vi => ∃ i : Nat, vi = .int .i64 i ∧ vk = .int .i64 (1 + (i : Int)) ∧ i ≤ n) (fun _ vi => n - (intOf vi).toNat)
  case atStart => exact ⟨0, rfl, rfl, by omega⟩
  case round =>
    obtain ⟨i, rfl, rfl, hi⟩ := hrel
    by_cases hp : i < n
    · have i2 : (i : Int) < (n : Int) := by omega
      obtain ⟨a, rfl, hc⟩ := HA.out i hp
      go_wp2
      go_round
      case rel => exact ⟨i + 1, by go_num, by go_num, by omega⟩
      case measure => simp [intOf]; omega
    · obtain rfl : i = n := by omega
      go_wp2
      go_ret
      exact ⟨rfl, Below.refl _ _⟩
end Go.Proofs.Ytlkkobffgbjkpaa
