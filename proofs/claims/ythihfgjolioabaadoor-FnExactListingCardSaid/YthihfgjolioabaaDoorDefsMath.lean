/-
  DefsOk as a plain function.
-/
import Derived.Test.YthihfgjolioabaaDoorDefs
import Derived.Test.YthihfgjolioabaaDoorNameOk
import Derived.Test.YthihfgjolioabaaDoorOpMath
namespace Go.Proofs.YthihfgjolioabaaDoor
open Go.RowKit Go

/-- A call of one of n definitions, or no call. -/
def okC (n : Nat) (o : Int × Int) : Bool := !(decide (o.1 = 2) && decide ((n : Int) ≤ o.2))
def okDf (n : Nat) (d : Df) : Bool := nameOk d.1 && (shapeB d.2 && d.2.all (okC n))
/-- Definitions as they must be. -/
def okDefs (ds : List Df) : Bool := decide (ds.length ≤ 24) && ds.all (okDf ds.length)
theorem okDefs_not {ds : List Df} {i : Nat} (hi : i < ds.length) (h : okDf ds.length ds[i] = false) : okDefs ds = false := by
  unfold okDefs
  have : ds.all (okDf ds.length) = false := by
    cases hh : ds.all (okDf ds.length) with
    | false => rfl
    | true => rw [List.all_eq_true] at hh; rw [hh _ (List.getElem_mem hi)] at h; cases h
  rw [this, Bool.and_false]
theorem okDefs_all {ds : List Df} (hl : ds.length ≤ 24) (h : (ds.take ds.length).all (okDf ds.length) = true) : okDefs ds = true := by
  rw [List.take_length] at h
  unfold okDefs
  rw [h]
  simp [hl]
theorem all_step {α : Type} {p : α → Bool} {xs : List α} {i : Nat} (hi : i < xs.length) (h : (xs.take i).all p = true) (h2 : p xs[i] = true) : (xs.take (i + 1)).all p = true := by
  rw [List.take_succ_eq_append_getElem hi, List.all_append, h, Bool.true_and, List.all_cons, h2]
  rfl
theorem all_not {α : Type} {p : α → Bool} {xs : List α} {i : Nat} (hi : i < xs.length) (h2 : p xs[i] = false) : xs.all p = false := by
  cases hh : xs.all p with
  | false => rfl
  | true => rw [List.all_eq_true] at hh; rw [hh _ (List.getElem_mem hi)] at h2; cases h2
end Go.Proofs.YthihfgjolioabaaDoor
