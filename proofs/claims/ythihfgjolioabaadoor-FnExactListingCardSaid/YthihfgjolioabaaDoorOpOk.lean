/-
  Whether an op is one: both sides.
-/
import Derived.Test.YthihfgjolioabaaDoorOpMath
import Derived.Test.YthihfgjolioabaaDoorPrimName
import Derived.Test.YthihfgjolioabaaDoorIn
namespace Go.Proofs.YthihfgjolioabaaDoor
open Go.RowKit Go

theorem primN_empty (n : Int) : (primN n).toList.isEmpty = !decide (0 ≤ n ∧ n ≤ 23) := by
  unfold primN
  by_cases h : 0 ≤ n ∧ n ≤ 23
  · rw [if_pos h, decide_eq_true h]
    obtain ⟨k, rfl⟩ : ∃ k : Nat, n = k := ⟨n.toNat, by omega⟩
    have hk : k < 24 := by omega
    rw [Int.toNat_natCast, ByteArray.toList_eq]
    match k, hk with
    | 0, _ => rfl
    | 1, _ => rfl
    | 2, _ => rfl
    | 3, _ => rfl
    | 4, _ => rfl
    | 5, _ => rfl
    | 6, _ => rfl
    | 7, _ => rfl
    | 8, _ => rfl
    | 9, _ => rfl
    | 10, _ => rfl
    | 11, _ => rfl
    | 12, _ => rfl
    | 13, _ => rfl
    | 14, _ => rfl
    | 15, _ => rfl
    | 16, _ => rfl
    | 17, _ => rfl
    | 18, _ => rfl
    | 19, _ => rfl
    | 20, _ => rfl
    | 21, _ => rfl
    | 22, _ => rfl
    | 23, _ => rfl
    | k + 24, h => omega
  · rw [if_neg h, decide_eq_false h, ByteArray.toList_eq]
    rfl
end Go.Proofs.YthihfgjolioabaaDoor
