/-
  Colours: which items go over into one another, as plain functions.
-/
import Derived.Test.YtllhcdkbgknjdaaCellMath
namespace Go.Proofs.Ytllhcdkbgknjdaa
open Go

def zeroIt : It := rawIt 0
def wordK (k : Int) : Bool := decide (1 ≤ k ∧ k ≤ 6)
def numK (k : Int) : Bool := decide (7 ≤ k ∧ k ≤ 8)
def akin (a b : Int) : Bool := decide (a = b) || (wordK a && wordK b) || (numK a && numK b)
def recolOk (it : It) (k : Int) : Bool := decide (cellsOf it ≠ []) && akin it.kind k
def recol (it : It) (k : Int) : It := if recolOk it k = true then { it with kind := k } else zeroIt

theorem cells_words {it : It} (h : 1 ≤ it.kind ∧ it.kind ≤ 6) : cellsOf it = if it.n = 0 ∧ it.hex = false ∧ it.raw = 0 then wordCells (tagW it.kind) (packs it.name.data.toList) else [] := by
  unfold cellsOf
  rw [if_neg (by omega), if_neg (by omega), if_neg (by omega), if_pos h]
theorem cells_nums {it : It} (h : it.kind = 7 ∨ it.kind = 8) : cellsOf it = if it.name = noText ∧ it.raw = 0 then numCells it.n it.hex (shortOf it.kind) (longOf it.kind) else [] := by
  unfold cellsOf
  rw [if_neg (by omega), if_pos h]
theorem akin_cells {it : It} {k : Int} (h : akin it.kind k = true) : (cellsOf { it with kind := k }).length = (cellsOf it).length := by
  unfold akin at h
  rw [Bool.or_eq_true, Bool.or_eq_true, Bool.and_eq_true, Bool.and_eq_true] at h
  rcases h with (h | ⟨h1, h2⟩) | ⟨h1, h2⟩
  · rw [← of_decide_eq_true h]
  · have h1 := of_decide_eq_true h1
    have h2 := of_decide_eq_true h2
    rw [cells_words (it := { it with kind := k }) h2, cells_words h1]
    simp only
    split
    · rw [wordCells_len, wordCells_len]
    · rfl
  · have h1 := of_decide_eq_true h1
    have h2 := of_decide_eq_true h2
    rw [cells_nums (it := { it with kind := k }) (show k = 7 ∨ k = 8 by omega), cells_nums (show it.kind = 7 ∨ it.kind = 8 by omega)]
    simp only
    split
    · unfold numCells; split <;> rfl
    · rfl
theorem akin_comm (a b : Int) : akin a b = akin b a := by
  unfold akin
  rw [Bool.and_comm (wordK a), Bool.and_comm (numK a), show decide (a = b) = decide (b = a) from decide_eq_decide.2 eq_comm]
/-- Coloured, and coloured back. -/
theorem recol_back {it : It} {k : Int} (h : recolOk it k = true) : recolOk (recol it k) it.kind = true ∧ recol (recol it k) it.kind = it ∧ (cellsOf (recol it k)).length = (cellsOf it).length ∧ (recol it k).kind = k := by
  have e : recol it k = { it with kind := k } := by unfold recol; rw [if_pos h]
  have h2 := h
  unfold recolOk at h2
  rw [Bool.and_eq_true] at h2
  obtain ⟨h3, h4⟩ := h2
  have h3 := of_decide_eq_true h3
  have hl := akin_cells h4
  have h5 : recolOk (recol it k) it.kind = true := by
    rw [e]
    unfold recolOk
    rw [Bool.and_eq_true]
    refine ⟨decide_eq_true fun e0 => h3 ?_, by rw [akin_comm]; exact h4⟩
    rw [e0] at hl
    exact List.eq_nil_of_length_eq_zero hl.symm
  refine ⟨h5, ?_, by rw [e, hl], by rw [e]⟩
  rw [show recol (recol it k) it.kind = { recol it k with kind := it.kind } by rw [recol, if_pos h5], e]
end Go.Proofs.Ytllhcdkbgknjdaa
