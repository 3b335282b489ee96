/-
  Plain mathematics, no program: words with blanks between are those words again; lines with newlines behind are the text.
-/
import Derived.Test.YtfldaknhdggdiaaWordsSpec
namespace Go.Proofs.Ytfldaknhdggdiaa

def flat (c : UInt8) (ls : List ByteArray) : List UInt8 := (ls.map fun x => x.data.toList ++ [c]).flatten
theorem flat_snoc (c : UInt8) (ls : List ByteArray) (x : ByteArray) : flat c (ls ++ [x]) = flat c ls ++ (x.data.toList ++ [c]) := by simp [flat]
theorem splitB_plain (p : UInt8 → Bool) : ∀ (l : List UInt8), ∀ x ∈ splitB p l, (∀ c ∈ x, p c = false) ∧ x.length ≤ l.length
  | [], x, hx => by simp [splitB] at hx; subst hx; simp
  | c :: r, x, hx => by
    have ih := splitB_plain p r
    rw [splitB] at hx
    split at hx
    · rcases List.mem_cons.1 hx with rfl | h
      · simp
      · exact ⟨(ih x h).1, by have := (ih x h).2; simp; omega⟩
    · rename_i hc
      split at hx
      · rename_i h
        exact absurd h (splitB_ne p r)
      · rename_i y ys h
        rw [h] at ih
        rcases List.mem_cons.1 hx with rfl | h2
        · have := ih y (by simp)
          refine ⟨fun d hd => ?_, by simp; omega⟩
          rcases List.mem_cons.1 hd with rfl | h3
          · simpa using hc
          · exact this.1 d h3
        · have := ih x (by simp [h2])
          exact ⟨this.1, by simp; omega⟩
theorem mem_partsOf {q : Int → Bool} {s x : ByteArray} (h : x ∈ partsOf q s) : (∀ c ∈ x.data.toList, onByte q c = false) ∧ x.size ≤ s.size := by
  unfold partsOf at h
  obtain ⟨l, hl, rfl⟩ := List.mem_map.1 h
  have := splitB_plain (onByte q) s.data.toList l hl
  refine ⟨by simpa using this.1, ?_⟩
  have h2 := this.2
  rw [size_list] at h2
  show l.toArray.size ≤ _
  simpa using h2
theorem mem_wordsOf {s x : ByteArray} (h : x ∈ wordsOf s) : (∀ c ∈ x.data.toList, onByte qSp c = false) ∧ x.size ≤ s.size ∧ x.size ≠ 0 := by
  unfold wordsOf full at h
  obtain ⟨h1, h2⟩ := List.mem_filter.1 h
  exact ⟨(mem_partsOf h1).1, (mem_partsOf h1).2, by simpa using h2⟩
theorem mem_linesOf {s x : ByteArray} (h : x ∈ linesOf s) : x.size ≤ s.size := by
  unfold linesOf at h
  split at h
  · exact (mem_partsOf (List.dropLast_subset _ h)).2
  · exact (mem_partsOf h).2

theorem splitB_flat (ws : List ByteArray) (h : ∀ x ∈ ws, ∀ c ∈ x.data.toList, onByte qSp c = false) : splitB (onByte qSp) (flat 32 ws) = ws.map (fun x => x.data.toList) ++ [[]] := by
  induction ws with
  | nil => rfl
  | cons x xs ih =>
    have e : flat 32 (x :: xs) = x.data.toList ++ 32 :: flat 32 xs := by simp [flat]
    rw [e, splitB_cut _ _ _ _ (h x (by simp)) (by decide), ih (fun y hy => h y (by simp [hy]))]
    rfl
theorem words_back {j : ByteArray} {ws : List ByteArray} (h : ∀ x ∈ ws, (∀ c ∈ x.data.toList, onByte qSp c = false) ∧ x.size ≠ 0) (hj : j.data.toList = flat 32 ws) : wordsOf j = ws := by
  unfold wordsOf partsOf full
  rw [hj, splitB_flat ws (fun x hx => (h x hx).1), List.map_append, List.filter_append, List.map_map]
  have e1 : (ws.map ((fun l : List UInt8 => (⟨l.toArray⟩ : ByteArray)) ∘ fun x : ByteArray => x.data.toList)) = ws := by
    conv => rhs; rw [← List.map_id ws]
    exact List.map_congr_left fun x _ => by simp
  rw [e1]
  have e2 : ws.filter (fun x => x.size != 0) = ws := List.filter_eq_self.2 fun x hx => by simpa using (h x hx).2
  rw [e2]
  simp
  rfl

theorem splitB_join : ∀ l : List UInt8, ((splitB (onByte qNl) l).map fun x => x ++ [10]).flatten = l ++ [10]
  | [] => rfl
  | c :: r => by
    have ih := splitB_join r
    rw [splitB]
    split
    · rename_i hc
      have : c = 10 := by
        unfold onByte qNl at hc
        have h1 : (c.toNat : Int) = 10 := by simpa using hc
        exact UInt8.toNat_inj.1 (by show c.toNat = 10; omega)
      rw [List.map_cons, List.flatten_cons, ih, this]
      rfl
    · split
      · rename_i h
        exact absurd h (splitB_ne _ r)
      · rename_i x xs h
        rw [h] at ih
        rw [List.map_cons, List.flatten_cons] at ih ⊢
        rw [List.cons_append, List.cons_append, ih]
        rfl
/-- The lines of a text with newlines behind: the text, or it with a newline behind where it isn't empty. -/
theorem lines_back (t : ByteArray) : flat 10 (linesOf t) = t.data.toList ∨ (flat 10 (linesOf t) = t.data.toList ++ [10] ∧ t.size ≠ 0) := by
  obtain ⟨init, lst, hps⟩ := exists_snoc (partsOf_ne qNl t)
  have hL := linesOf_eq t init lst hps
  have hj : flat 10 (partsOf qNl t) = t.data.toList ++ [10] := by
    rw [← splitB_join t.data.toList]
    unfold flat partsOf
    rw [List.map_map]
    congr 1
  rw [hps, flat_snoc] at hj
  by_cases h0 : lst.size = 0
  · rw [if_pos h0] at hL
    have : lst.data.toList = [] := List.length_eq_zero_iff.1 (by simpa using h0)
    rw [this, List.nil_append] at hj
    rw [hL]
    exact .inl (List.append_cancel_right hj)
  · rw [if_neg h0] at hL
    rw [hL, flat_snoc]
    refine .inr ⟨hj, fun h => ?_⟩
    have h1 := congrArg List.length hj
    have h2 : lst.data.toList.length = lst.size := size_list lst
    have h3 : t.data.toList.length = t.size := size_list t
    simp only [List.length_append, List.length_cons, List.length_nil, h2, h3, h] at h1
    omega
end Go.Proofs.Ytfldaknhdggdiaa
