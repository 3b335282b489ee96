/-
  Bodies as lists of pairs: which ops are right, what they leave open.
-/
import Derived.Test.YthihfgjolioabaaDoorKit
namespace Go.Proofs.YthihfgjolioabaaDoor
open Go.RowKit Go

/-- An op as it may be: a kind and a number. -/
def okOp (o : Int × Int) : Bool := if o.1 = 0 then true else if o.1 = 1 then decide (0 ≤ o.2 ∧ o.2 ≤ 23) else if o.1 = 2 then decide (0 ≤ o.2 ∧ o.2 ≤ 23) else decide ((3 ≤ o.1 ∧ o.1 ≤ 8) ∧ o.2 = 0)
/-- The kinds that ops leave open behind those that are open ahead of them. -/
def openG : List (Int × Int) → List Int → Option (List Int)
  | [], st => some st
  | o :: r, st =>
    if o.1 = 3 ∨ o.1 = 4 ∨ o.1 = 6 then openG r (st ++ [o.1])
    else if o.1 = 5 ∨ o.1 = 7 then
      match st.getLast? with
      | none => none
      | some k => if (k = 6 ↔ o.1 = 7) then openG r st.dropLast else none
    else openG r st
/-- The op that ends one of a kind. -/
def endOf (k : Int) : Int × Int := if k = 6 then (7, 0) else (5, 0)
/-- The same with ops that may be none: what ends nothing must begin something. -/
def waitG : List (Int × Int) → List Int → Option (List Int)
  | [], st => some st
  | o :: r, st =>
    if okOp o = true ∧ o.1 ≠ 5 ∧ o.1 ≠ 7 then (if o.1 = 3 ∨ o.1 = 4 ∨ o.1 = 6 then waitG r (st ++ [o.1]) else waitG r st)
    else match st.getLast? with
      | none => none
      | some k => if endOf k = o then waitG r st.dropLast else none
theorem okOp_end (k : Int) : okOp (endOf k) = true := by
  unfold endOf
  split <;> decide
theorem waitG_eq : ∀ (xs : List (Int × Int)) (st : List Int), waitG xs st = if xs.all okOp = true then openG xs st else none := by
  intro xs
  induction xs with
  | nil => intro st; rfl
  | cons o r ih =>
    intro st
    obtain ⟨k, n⟩ := o
    unfold waitG openG
    simp only [List.all_cons, Bool.and_eq_true]
    cases hk : okOp (k, n) with
    | false =>
      simp only [Bool.false_eq_true, false_and, if_false]
      split
      · rfl
      · rename_i q hq
        rw [if_neg]
        intro e
        have := okOp_end q
        rw [e, hk] at this
        cases this
    | true =>
      simp only [true_and]
      by_cases h5 : k = 5 ∨ k = 7
      · have hn : n = 0 := by
          unfold okOp at hk
          rcases h5 with rfl | rfl <;> simpa using hk
        have a1 : ¬ (k ≠ 5 ∧ k ≠ 7) := by omega
        have a2 : ¬ (k = 3 ∨ k = 4 ∨ k = 6) := by omega
        rw [if_neg a1, if_neg a2, if_pos h5]
        cases hl : st.getLast? with
        | none => simp
        | some q =>
          simp only
          have he : (endOf q = (k, n)) ↔ (q = 6 ↔ k = 7) := by
            unfold endOf
            subst hn
            by_cases hq : q = 6
            · simp [hq]; omega
            · simp [hq]; omega
          by_cases h6 : (q = 6 ↔ k = 7)
          · rw [if_pos (he.2 h6), if_pos h6, ih]
          · rw [if_neg (fun e => h6 (he.1 e)), if_neg h6]
            simp
      · have a1 : k ≠ 5 ∧ k ≠ 7 := by omega
        rw [if_pos a1, if_neg h5]
        by_cases h3 : k = 3 ∨ k = 4 ∨ k = 6
        · rw [if_pos h3, if_pos h3, ih]
        · rw [if_neg h3, if_neg h3, ih]
/-- A body with its shape. -/
def shapeB (xs : List (Int × Int)) : Bool := decide (xs.length ≤ 60) && (xs.all okOp && decide (openG xs [] = some []))
theorem shape_wait (xs : List (Int × Int)) : shapeB xs = (decide (xs.length ≤ 60) && decide (waitG xs [] = some [])) := by
  unfold shapeB
  rw [waitG_eq]
  cases h : xs.all okOp <;> simp
end Go.Proofs.YthihfgjolioabaaDoor
