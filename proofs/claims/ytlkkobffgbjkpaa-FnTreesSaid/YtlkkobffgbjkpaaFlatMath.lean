/-
  Trees as ops: which trees a body may have.
-/
import Derived.Test.YtlkkobffgbjkpaaTreeMath
namespace Go.Proofs.Ytlkkobffgbjkpaa
open Go.RowKit Go

mutual
/-- A tree whose kinds and kids may be. -/
def Tr.sh : Tr → Bool | .mk k _ c => decide (k ≠ 5 ∧ k ≠ 7) && (if k = 3 ∨ k = 4 ∨ k = 6 then shL c else c.isEmpty)
def shL : List Tr → Bool | [] => true | t :: r => t.sh && shL r
end
theorem shL_app (a b : List Tr) : shL (a ++ b) = (shL a && shL b) := by
  induction a with
  | nil => simp [shL]
  | cons t r ih => simp only [List.cons_append, shL, ih, Bool.and_assoc]
theorem flatL_app (a b : List Tr) : flatL (a ++ b) = flatL a ++ flatL b := by
  induction a with
  | nil => simp [flatL]
  | cons t r ih => simp only [List.cons_append, flatL, ih, List.append_assoc]
theorem flatL_take {xs : List Tr} {i : Nat} (h : i < xs.length) : flatL (xs.take (i + 1)) = flatL (xs.take i) ++ flatT xs[i] := by
  rw [← List.take_append_getElem h, flatL_app, flatL, flatL, List.append_nil]
theorem shL_take {xs : List Tr} {i : Nat} (h : i < xs.length) : shL (xs.take (i + 1)) = (shL (xs.take i) && xs[i].sh) := by
  rw [← List.take_append_getElem h, shL_app, shL, shL, Bool.and_true]
theorem flatT_leaf {k n : Int} {c : List Tr} (h : ¬ (k = 3 ∨ k = 4 ∨ k = 6)) : flatT (.mk k n c) = [(k, n)] := by rw [flatT, if_neg h]
theorem flatT_nest {k n : Int} {c : List Tr} (h : k = 3 ∨ k = 4 ∨ k = 6) : flatT (.mk k n c) = (k, n) :: (flatL c ++ [endOf k]) := by rw [flatT, if_pos h]
theorem flatT_pos (t : Tr) : 1 ≤ (flatT t).length := by cases t with | mk k n c => rw [flatT, List.length_cons]; omega
theorem flatL_split {xs : List Tr} {i : Nat} (h : i < xs.length) : (flatL xs).length = (flatL (xs.take i)).length + (flatT xs[i]).length + (flatL (xs.drop (i + 1))).length := by
  have e : xs = xs.take i ++ xs[i] :: xs.drop (i + 1) := by rw [← List.drop_eq_getElem_cons h, List.take_append_drop]
  have e2 := congrArg (fun l => (flatL l).length) e
  simp only [flatL_app, flatL, List.length_append] at e2
  omega
theorem shL_split {xs : List Tr} {i : Nat} (h : i < xs.length) (hs : shL xs = true) : xs[i].sh = true := by
  have e : xs = xs.take i ++ xs[i] :: xs.drop (i + 1) := by rw [← List.drop_eq_getElem_cons h, List.take_append_drop]
  rw [e, shL_app, shL] at hs
  simp only [Bool.and_eq_true] at hs
  exact hs.2.1
mutual
theorem flatT_len : ∀ t : Tr, (flatT t).length ≤ 2 * t.size
  | .mk k n c => by
    have := flatL_len c
    rw [flatT, Tr.size]
    split <;> simp only [List.length_cons, List.length_append, List.length_nil] <;> omega
theorem flatL_len : ∀ xs : List Tr, (flatL xs).length ≤ 2 * sizeL xs
  | [] => by simp [flatL]
  | t :: r => by
    have := flatT_len t
    have := flatL_len r
    simp only [flatL, List.length_append, sizeL]
    omega
end
mutual
theorem openT_flat : ∀ (t : Tr), t.sh = true → ∀ (r : List (Int × Int)) (st : List Int), openG (flatT t ++ r) st = openG r st
  | .mk k n c, h, r, st => by
    simp only [Tr.sh, Bool.and_eq_true, decide_eq_true_eq] at h
    by_cases h3 : k = 3 ∨ k = 4 ∨ k = 6
    · rw [if_pos h3] at h
      rw [flatT_nest h3, List.cons_append, List.append_assoc]
      rw [openG, if_pos h3, openL_flat c h.2]
      simp only [List.cons_append, List.nil_append]
      rw [openG, if_neg (by unfold endOf; split <;> decide), if_pos (by unfold endOf; split <;> decide)]
      simp only [List.getLast?_append, List.getLast?_singleton, Option.some_or, List.dropLast_concat]
      rw [if_pos]
      unfold endOf
      split <;> omega
    · rw [flatT_leaf h3]
      simp only [List.cons_append, List.nil_append]
      rw [openG, if_neg h3, if_neg (by simp only; omega)]
theorem openL_flat : ∀ (xs : List Tr), shL xs = true → ∀ (r : List (Int × Int)) (st : List Int), openG (flatL xs ++ r) st = openG r st
  | [], _, r, st => by simp [flatL]
  | t :: ts, h, r, st => by
    simp only [shL, Bool.and_eq_true] at h
    rw [flatL, List.append_assoc, openT_flat t h.1, openL_flat ts h.2]
end
theorem shape_flat {xs : List Tr} (h : shL xs = true) : shapeB (flatL xs) = (decide ((flatL xs).length ≤ 60) && (flatL xs).all okOp) := by
  have := openL_flat xs h [] []
  rw [List.append_nil] at this
  unfold shapeB
  rw [this, openG]
  simp
/-- What FlatOf tells. -/
def flat8 (xs : List Tr) : List (Int × Int) := if shL xs = true ∧ (flatL xs).length ≤ 60 ∧ (flatL xs).all okOp = true then flatL xs else []
theorem flat8_len (xs : List Tr) : (flat8 xs).length ≤ 60 := by
  unfold flat8
  split
  · rename_i h; exact h.2.1
  · simp
end Go.Proofs.Ytlkkobffgbjkpaa
