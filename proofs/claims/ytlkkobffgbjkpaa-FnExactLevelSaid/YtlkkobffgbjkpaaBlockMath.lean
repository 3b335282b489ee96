/-
  Blocks of a store, as plain functions: a block of it, the store with another block.
-/
import Derived.Test.YtlkkobffgbjkpaaStoreMath
namespace Go.Proofs.Ytlkkobffgbjkpaa
open Go

def storeB (n : Nat) : Bool := decide (n % 64 = 0 ∧ n ≤ 768)
def hasB (n : Nat) (b : Int) : Bool := decide ((n % 64 = 0 ∧ n ≤ 768) ∧ 0 ≤ b ∧ b < ((n / 64 : Nat) : Int))
/-- Block b. -/
def blockL (l : List Nat) (b : Nat) : List Nat := (l.drop (64 * b)).take 64
/-- Cells with noughts behind them, as many as a block has. -/
def padL (cells : List Nat) : List Nat := cells ++ List.replicate (64 - cells.length) 0
/-- The store with i cells of block b as they are to be. -/
def putI (l : List Nat) (b : Nat) (cells : List Nat) (i : Nat) : List Nat := l.take (64 * b) ++ (padL cells).take i ++ l.drop (64 * b + i)
def putL (l : List Nat) (b : Nat) (cells : List Nat) : List Nat := putI l b cells 64
theorem hasB_some {n : Nat} {b : Int} (h : hasB n b = true) : ∃ k : Nat, b = k ∧ n % 64 = 0 ∧ n ≤ 768 ∧ 64 * k + 64 ≤ n := by
  obtain ⟨⟨h1, h2⟩, h3, h4⟩ := of_decide_eq_true h
  exact ⟨b.toNat, by omega, h1, h2, by omega⟩
theorem padL_len {cells : List Nat} (h : cells.length ≤ 64) : (padL cells).length = 64 := by unfold padL; rw [List.length_append, List.length_replicate]; omega
theorem padL_at {cells : List Nat} (h : cells.length ≤ 64) (i : Nat) (hi : i < 64) : (padL cells)[i]'(by rw [padL_len h]; exact hi) = if hc : i < cells.length then cells[i] else 0 := by
  unfold padL
  split
  · rw [List.getElem_append_left]
  · rw [List.getElem_append_right (by omega), List.getElem_replicate]
theorem padL_small {cells : List Nat} (h : ∀ c ∈ cells, c < 4294967296) : ∀ c ∈ padL cells, c < 4294967296 := by
  intro c hc
  rcases List.mem_append.1 hc with h1 | h1
  · exact h c h1
  · rw [(List.mem_replicate.1 h1).2]; decide
theorem putI_zero (l : List Nat) (b : Nat) (cells : List Nat) : putI l b cells 0 = l := by
  unfold putI
  rw [List.take_zero, List.append_nil, Nat.add_zero, List.take_append_drop]
theorem putI_len {l : List Nat} {b i : Nat} {cells : List Nat} (hb : 64 * b + 64 ≤ l.length) (hc : cells.length ≤ 64) (hi : i ≤ 64) : (putI l b cells i).length = l.length := by
  have h := padL_len hc
  unfold putI
  rw [List.length_append, List.length_append, List.length_take, List.length_take, List.length_drop, h]
  omega
/-- One cell more. -/
theorem putI_set {l : List Nat} {b i : Nat} {cells : List Nat} (hb : 64 * b + 64 ≤ l.length) (hc : cells.length ≤ 64) (hi : i < 64) : (putI l b cells i).set (64 * b + i) ((padL cells)[i]'(by rw [padL_len hc]; exact hi)) = putI l b cells (i + 1) := by
  have h := padL_len hc
  have h1 : (l.take (64 * b) ++ (padL cells).take i).length = 64 * b + i := by
    rw [List.length_append, List.length_take, List.length_take, h]; omega
  have h2 : l.drop (64 * b + i) = l[64 * b + i]'(by omega) :: l.drop (64 * b + i + 1) := List.drop_eq_getElem_cons (by omega)
  unfold putI
  rw [List.set_append_right _ _ (by rw [h1]; exact Nat.le_refl _), h1, Nat.sub_self, h2, List.set_cons_zero]
  have h3 : (padL cells).take (i + 1) = (padL cells).take i ++ [(padL cells)[i]'(by rw [h]; exact hi)] := List.take_succ_eq_append_getElem (by rw [h]; exact hi)
  rw [h3, ← List.append_assoc (l.take (64 * b)), List.append_assoc (l.take (64 * b) ++ (padL cells).take i) [_]]
  rfl
theorem putL_len {l : List Nat} {b : Nat} {cells : List Nat} (hb : 64 * b + 64 ≤ l.length) (hc : cells.length ≤ 64) : (putL l b cells).length = l.length := putI_len hb hc (Nat.le_refl _)
theorem putL_eq {l : List Nat} {b : Nat} {cells : List Nat} (hc : cells.length ≤ 64) : putL l b cells = l.take (64 * b) ++ padL cells ++ l.drop (64 * b + 64) := by
  unfold putL putI
  have h3 : (padL cells).take 64 = padL cells := List.take_of_length_le (by rw [padL_len hc]; exact Nat.le_refl _)
  rw [h3]
theorem putL_small {l : List Nat} {b : Nat} {cells : List Nat} (hl : ∀ c ∈ l, c < 4294967296) (hs : ∀ c ∈ cells, c < 4294967296) (hc : cells.length ≤ 64) : ∀ c ∈ putL l b cells, c < 4294967296 := by
  rw [putL_eq hc]
  intro c h
  rcases List.mem_append.1 h with h | h
  · rcases List.mem_append.1 h with h | h
    · exact hl c (List.mem_of_mem_take h)
    · exact padL_small hs c h
  · exact hl c (List.mem_of_mem_drop h)
theorem blockL_len {l : List Nat} {b : Nat} (hb : 64 * b + 64 ≤ l.length) : (blockL l b).length = 64 := by
  unfold blockL
  rw [List.length_take, List.length_drop]
  omega
/-- What is put into a block is there. -/
theorem block_put {l : List Nat} {b : Nat} {cells : List Nat} (hb : 64 * b + 64 ≤ l.length) (hc : cells.length ≤ 64) : blockL (putL l b cells) b = padL cells := by
  have h1 : (l.take (64 * b)).length = 64 * b := by rw [List.length_take]; omega
  rw [putL_eq hc]
  unfold blockL
  rw [List.append_assoc, List.drop_left' h1, List.take_left' (padL_len hc)]
/-- No other block changes. -/
theorem block_other {l : List Nat} {b k : Nat} {cells : List Nat} (hb : 64 * b + 64 ≤ l.length) (hc : cells.length ≤ 64) (hk : k ≠ b) : blockL (putL l b cells) k = blockL l k := by
  have hp := padL_len hc
  refine List.ext_getElem? fun j => ?_
  unfold blockL
  rw [List.getElem?_take, List.getElem?_take]
  by_cases hj : j < 64
  · rw [if_pos hj, if_pos hj, List.getElem?_drop, List.getElem?_drop, putL_eq hc]
    have h1 : (l.take (64 * b)).length = 64 * b := by rw [List.length_take]; omega
    rcases Nat.lt_or_ge k b with h | h
    · rw [List.append_assoc, List.getElem?_append_left (by omega), List.getElem?_take, if_pos (by omega)]
    · rw [List.getElem?_append_right (by rw [List.length_append, h1, hp]; omega), List.length_append, h1, hp, List.getElem?_drop]
      congr 1
      omega
  · rw [if_neg hj, if_neg hj]
end Go.Proofs.Ytlkkobffgbjkpaa
