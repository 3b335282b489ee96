/-
  A copy of a list of numbers of 32 bits.
-/
import Derived.Test.YtlkkobffgbjkpaaU32
import Derived.OwnWalk
namespace Go.Proofs.Ytlkkobffgbjkpaa
open Go.RowKit Go

theorem infoU32 : (Try.prog.info? 144).map (fun i => (i.zero, i.size, i.bytes)) = some (some (.int .u32 0), 1, 4) := by kernel_rfl
def copied (xs : List Nat) (i : Nat) : List Nat := xs.take i ++ List.replicate (xs.length - i) 0
theorem copied_len (xs : List Nat) (i : Nat) (h : i ≤ xs.length) : (copied xs i).length = xs.length := by simp [copied]; omega
theorem copied_zero (xs : List Nat) : (copied xs 0).map u32v = List.replicate xs.length (.int .u32 0) := by simp [copied, u32v]
theorem copied_full (xs : List Nat) : copied xs xs.length = xs := by simp [copied]
theorem copied_set {xs : List Nat} {i : Nat} (h : i < xs.length) : ((copied xs i).map u32v).set i (.int .u32 (xs[i] : Int)) = (copied xs (i + 1)).map u32v := by
  have e : Value.int .u32 (xs[i] : Int) = u32v xs[i] := rfl
  rw [e, List.map_set.symm]
  congr 1
  unfold copied
  obtain ⟨m, hm⟩ : ∃ m, xs.length - i = m + 1 := ⟨xs.length - i - 1, by omega⟩
  rw [hm, show xs.length - (i + 1) = m by omega, List.replicate_succ, List.set_append_right _ _ (by simp; omega)]
  have : i - (xs.take i).length = 0 := by simp; omega
  rw [this, List.set_cons_zero, List.take_succ_eq_append_getElem h, List.append_assoc]
  rfl

set_option maxHeartbeats 1000000 in
theorem tou_any (v : Value) (xs : List Nat) (hx : xs.length ≤ 4194304) (W : World) (ha : RdN W v xs) : Calls Try.prog 72 #[v] W (NewN W xs) := by
  obtain ⟨i0, hi, hz0, hz1, hz2⟩ := info_parts infoU32
  obtain ⟨A, ca, rfl, hla, hca⟩ := ha
  have HA := Lib.hid hca
  clear hca hla
  go_enter Try.func72, Try.ntmps72
  go_wp2_with (refine wpList_make_full _ rfl _ _ _ rfl W.heap.size 144 i0 (.int .u32 0) 1 Try.underlying52 hi hz0 hz1 .i64 .i64 _ _ xs.length rfl rfl rfl rfl (by rw [hz2]; omega) (by unfold maxLen; omega) (Nat.le_refl _) ?_; intro w1 hown hgr)
  have hb1 : Below W.heap.size W w1 := (Below.refl _ _).grown hgr (Nat.le_refl _) (fun k hk => by cases hk)
  have hown1 : w1.ownsRow W.heap.size 144 1 (.slice (some ⟨W.heap.size, 0, none⟩) xs.length xs.length) xs.length ((copied xs 0).map u32v) := by
    rw [copied_zero]
    rw [show (madeCells (Value.int .u32 0).cells (xs.length * 1)).toList = List.replicate xs.length (.int .u32 0) by rw [Nat.mul_one]; exact toList_madeCells_one _ _] at hown
    exact hown
  clear hown hgr
  go_loopw [4] (fun vi wr => ∃ i : Nat, vi = .int .i64 i ∧ i ≤ xs.length ∧ wr.ownsRow W.heap.size 144 1 (.slice (some ⟨W.heap.size, 0, none⟩) xs.length xs.length) xs.length ((copied xs i).map u32v) ∧ Below W.heap.size W wr) (fun vi _ => xs.length - (intOf vi).toNat)
  case atStart => exact ⟨0, rfl, by omega, hown1, hb1⟩
  case round =>
    clear hown1 hb1
    obtain ⟨i, rfl, hi, hO, hB⟩ := hrel
    by_cases hp : i < xs.length
    · obtain ⟨ga, rfl, hgl, ha⟩ := HA.out i hp
      have hc : wr.cell? (ga.add i) = some (.int .u32 (xs[i] : Int)) := (hB.cell (by rw [addr_addb]; exact hgl)).trans ha
      have i2 : (i : Int) < (xs.length : Int) := by omega
      have hd : wr.cell? ⟨W.heap.size, i, none⟩ = some (u32v ((copied xs i)[i]'(by rw [copied_len xs i hi]; exact hp))) := by
        rw [hO.cellAt i (by omega)]
        simp [copied_len xs i hi, hp]
      have hf := hO.frozenAt i
      have hs := hO.stored i (.int .u32 (xs[i] : Int))
      rw [copied_set hp] at hs
      have HS := Lib.hid hs
      have HB := Lib.hid hB
      clear ha hgl hs hO hB
      go_wp2
      go_roundw
      case rel => exact ⟨i + 1, by go_num, by omega, HS.out.1, HB.out.grown HS.out.2 HB.out.size (fun k hk => by injection hk with hk; omega)⟩
      case measure => simp [intOf]; omega
    · obtain rfl : i = xs.length := by omega
      rw [copied_full] at hO
      go_wp2
      go_ret
      exact ⟨_, rfl, hO, hB⟩
end Go.Proofs.Ytlkkobffgbjkpaa
