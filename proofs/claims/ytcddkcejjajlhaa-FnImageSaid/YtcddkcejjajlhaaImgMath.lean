/-
  What bytes are those of a store, as a plain function: the bytes of the cells that they tell are they themselves.
-/
import Derived.Test.YtcddkcejjajlhaaImage
import Derived.Test.YtcddkcejjajlhaaBlockIn
namespace Go.Proofs.Ytcddkcejjajlhaa
open Go.RowKit Go

theorem wordsB_len : ∀ (n : Nat) (b : List Nat), b.length = 4 * n → (wordsB b).length = n
  | 0, [], _ => rfl
  | 0, _ :: _, h => by simp at h
  | n + 1, [], h => by simp at h
  | n + 1, [a], h => by simp at h; omega
  | n + 1, [a, b], h => by simp at h; omega
  | n + 1, [a, b, c], h => by simp at h; omega
  | n + 1, a :: b :: c :: d :: r, h => by
    show (wordsB r).length + 1 = n + 1
    rw [wordsB_len n r (by simp at h; omega)]
theorem fourB_word {a b c d : Nat} (ha : a < 256) (hb : b < 256) (hc : c < 256) (hd : d < 256) : fourB (wordB a b c d) = [a, b, c, d] := by
  unfold fourB wordB
  have e1 : (a + b * 256 + c * 65536 + d * 16777216) % 256 = a := by omega
  have e2 : (a + b * 256 + c * 65536 + d * 16777216) / 256 % 256 = b := by omega
  have e3 : (a + b * 256 + c * 65536 + d * 16777216) / 65536 % 256 = c := by omega
  have e4 : (a + b * 256 + c * 65536 + d * 16777216) / 16777216 % 256 = d := by omega
  rw [e1, e2, e3, e4]
theorem four_words : ∀ (n : Nat) (b : List Nat), b.length = 4 * n → (∀ y ∈ b, y < 256) → (wordsB b).flatMap fourB = b
  | 0, [], _, _ => rfl
  | 0, _ :: _, h, _ => by simp at h
  | n + 1, [], h, _ => by simp at h
  | n + 1, [a], h, _ => by simp at h; omega
  | n + 1, [a, b], h, _ => by simp at h; omega
  | n + 1, [a, b, c], h, _ => by simp at h; omega
  | n + 1, a :: b :: c :: d :: r, h, hs => by
    show fourB (wordB a b c d) ++ (wordsB r).flatMap fourB = _
    rw [four_words n r (by simp at h; omega) (fun y hy => hs y (by simp [hy])), fourB_word (hs a (by simp)) (hs b (by simp)) (hs c (by simp)) (hs d (by simp))]
    rfl
theorem getD4 (a b c d : Nat) (r : List Nat) (j : Nat) : (a :: b :: c :: d :: r).getD (j + 4) 0 = r.getD j 0 := rfl
theorem wordsB_cons (a b c d : Nat) (r : List Nat) : wordsB (a :: b :: c :: d :: r) = wordB a b c d :: wordsB r := rfl
theorem g1 {a b c d : Nat} {r : List Nat} : (a :: b :: c :: d :: r).getD 1 0 = b := rfl
theorem g2 {a b c d : Nat} {r : List Nat} : (a :: b :: c :: d :: r).getD 2 0 = c := rfl
theorem g3 {a b c d : Nat} {r : List Nat} : (a :: b :: c :: d :: r).getD 3 0 = d := rfl
theorem by4 {n : Nat} {l : List Nat} (h : l.length = 4 * (n + 1)) : ∃ a b c d r, l = a :: b :: c :: d :: r ∧ r.length = 4 * n := by
  match l, h with
  | [], h => simp at h
  | [a], h => simp at h; omega
  | [a, b], h => simp at h; omega
  | [a, b, c], h => simp at h; omega
  | a :: b :: c :: d :: r, h => exact ⟨a, b, c, d, r, rfl, by simp at h; omega⟩
theorem wordsB_at (n : Nat) : ∀ (l : List Nat) (i : Nat), l.length = 4 * n → i < n → (wordsB l).getD i 0 = wordB (l.getD (4 * i) 0) (l.getD (4 * i + 1) 0) (l.getD (4 * i + 2) 0) (l.getD (4 * i + 3) 0) := by
  induction n with
  | zero => exact fun _ _ _ hi => absurd hi (Nat.not_lt_zero _)
  | succ n ih =>
    intro l i h hi
    obtain ⟨a, b, c, d, r, rfl, hr⟩ := by4 h
    cases i with
    | zero => rw [wordsB_cons, List.getD_cons_zero, Nat.mul_zero, Nat.zero_add, Nat.zero_add, Nat.zero_add, List.getD_cons_zero, g1, g2, g3]
    | succ i =>
      rw [wordsB_cons, List.getD_cons_succ, ih r i hr (by omega), show 4 * (i + 1) = 4 * i + 4 by omega, getD4, show 4 * i + 4 + 1 = 4 * i + 1 + 4 by omega, getD4, show 4 * i + 4 + 2 = 4 * i + 2 + 4 by omega, getD4, show 4 * i + 4 + 3 = 4 * i + 3 + 4 by omega, getD4]
theorem wordsB_small {b : List Nat} (n : Nat) (hl : b.length = 4 * n) (hs : ∀ y ∈ b, y < 256) : ∀ c ∈ wordsB b, c < 4294967296 := by
  intro c hc
  obtain ⟨i, hi, rfl⟩ := List.getElem_of_mem hc
  have h1 := wordsB_len n b hl
  have h2 := wordsB_at n b i hl (by omega)
  rw [List.getD_eq_getElem?_getD, List.getElem?_eq_getElem hi] at h2
  have hb : ∀ j, b.getD j 0 < 256 := fun j => by
    rw [List.getD_eq_getElem?_getD]
    cases hq : b[j]? with
    | none => decide
    | some y => exact hs y (List.mem_of_getElem? hq)
  show (wordsB b)[i] < _
  rw [show (wordsB b)[i] = (some (wordsB b)[i]).getD 0 from rfl, h2]
  exact wordB_lt (hb _) (hb _) (hb _) (hb _)
/-- How many cells the first byte tells. -/
def cellN (b : Nat) : Nat := if b ≤ 12 then 64 * b else 0
theorem newL_cellN (b : Nat) : newL (b : Int) = List.replicate (cellN b) 0 := by
  unfold newL cellN
  by_cases h : b ≤ 12
  · rw [if_pos (by omega), if_pos h]
    rfl
  · rw [if_neg (by omega), if_neg h]
    rfl
def wordsN (bs : List Nat) : List Nat := (wordsB bs.tail).take (cellN (bs.headD 0))
theorem readOk_nil : readOk [] = false := decide_eq_false fun h => absurd h.1 (by decide)
theorem readOk_size {bs : List Nat} (h : bs.length ≠ 5 + 4 * cellN (bs.headD 0)) : readOk bs = false := by
  refine decide_eq_false fun ⟨h1, h2, h3, _⟩ => h ?_
  unfold cellN
  rw [if_pos h2]
  omega
theorem wordsN_len {bs : List Nat} (h : bs.length = 5 + 4 * cellN (bs.headD 0)) : (wordsN bs).length = cellN (bs.headD 0) := by
  unfold wordsN
  rw [List.length_take, wordsB_len (cellN (bs.headD 0) + 1) bs.tail (by rw [List.length_tail]; omega)]
  omega
theorem readOk_iff {bs : List Nat} (h : bs.length = 5 + 4 * cellN (bs.headD 0)) (hs : ∀ y ∈ bs, y < 256) : readOk bs = decide (imageL (wordsN bs) = bs) := by
  have hl := wordsN_len h
  match bs, h, hs, hl with
  | b :: t, h, hs, hl =>
    have hd : (b :: t).headD 0 = b := rfl
    rw [hd] at h hl
    have ht : t.length = 4 * (cellN b + 1) := by simp at h; omega
    have hst : ∀ y ∈ t, y < 256 := fun y hy => hs y (by simp [hy])
    have hw := wordsB_len _ t ht
    have hsplit : wordsB t = wordsN (b :: t) ++ [(wordsB t).getD (cellN b) 0] := by
      have hlt : cellN b < (wordsB t).length := by omega
      have e1 : wordsB t = (wordsB t).take (cellN b) ++ (wordsB t).drop (cellN b) := (List.take_append_drop ..).symm
      have e2 : (wordsB t).drop (cellN b) = [(wordsB t).getD (cellN b) 0] := by
        rw [List.drop_eq_getElem_cons hlt, List.drop_eq_nil_of_le (by omega), List.getD_eq_getElem?_getD, List.getElem?_eq_getElem hlt]
        rfl
      rw [e2] at e1
      exact e1
    have hfour := four_words _ t ht hst
    have hsm : ∀ c ∈ wordsB t, c < 4294967296 := wordsB_small _ ht hst
    by_cases hb : b ≤ 12
    · have hc : cellN b = 64 * b := if_pos hb
      have himg : imageL (wordsN (b :: t)) = b :: (wordsN (b :: t) ++ [sumL (wordsN (b :: t))]).flatMap fourB := by
        unfold imageL
        rw [hl, hc]
        congr 1
        omega
      refine decide_eq_decide.2 ⟨fun ⟨_, _, _, h4⟩ => ?_, fun e => ⟨by simp; omega, hb, by rw [h, hd]; omega, ?_⟩⟩
      · have h4 : sumL (wordsN (b :: t)) = (wordsB t).getD (cellN b) 0 := by
          unfold wordsN
          rw [hd, hc]
          exact h4
        rw [himg, h4, ← hsplit, hfour]
      · rw [himg] at e
        injection e with _ e
        have h5 : wordsN (b :: t) ++ [sumL (wordsN (b :: t))] = wordsB t := by
          rw [← wordsB_four (wordsN (b :: t) ++ [sumL (wordsN (b :: t))]) ?_, e]
          intro c hcm
          rcases List.mem_append.1 hcm with h6 | h6
          · exact hsm c (by rw [hsplit]; exact List.mem_append_left _ h6)
          · rw [List.mem_singleton.1 h6]; exact sumL_lt _
        rw [hsplit] at h5
        have h6 := List.append_cancel_left h5
        injection h6 with h6 _
        show sumL ((wordsB t).take (64 * b)) = (wordsB t).getD (64 * b) 0
        rw [← hc]
        exact h6
    · have hc : cellN b = 0 := if_neg hb
      have h1 : readOk (b :: t) = false := decide_eq_false fun h => hb h.2.1
      rw [h1]
      refine (decide_eq_false fun e => ?_).symm
      unfold imageL at e
      injection e with e1 _
      rw [hl, hc] at e1
      omega
theorem readL_words {bs : List Nat} (h : readOk bs = true) : readL bs = wordsN bs := by
  unfold readL wordsN cellN
  rw [if_pos h, if_pos (of_decide_eq_true h).2.1]
end Go.Proofs.Ytcddkcejjajlhaa
