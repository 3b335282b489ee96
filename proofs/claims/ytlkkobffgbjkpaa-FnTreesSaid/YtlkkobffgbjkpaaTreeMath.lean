/-
  Trees as plain data: how many they are, their ops in order, what a body has.
-/
import Derived.Test.YtlkkobffgbjkpaaOpMath
namespace Go.Proofs.Ytlkkobffgbjkpaa
open Go.RowKit Go

/-- A tree: its kind, its number, what stands in it. -/
inductive Tr | mk (k n : Int) (kids : List Tr)
def Tr.k : Tr → Int | .mk k _ _ => k
def Tr.n : Tr → Int | .mk _ n _ => n
def Tr.kids : Tr → List Tr | .mk _ _ c => c
mutual
def Tr.size : Tr → Nat | .mk _ _ c => sizeL c + 1
def sizeL : List Tr → Nat | [] => 0 | t :: r => t.size + sizeL r
end
theorem Tr.size_kids (t : Tr) : t.size = sizeL t.kids + 1 := by cases t; simp only [Tr.size, Tr.kids]
theorem sizeL_app (a b : List Tr) : sizeL (a ++ b) = sizeL a + sizeL b := by
  induction a with
  | nil => simp [sizeL]
  | cons t r ih => simp only [List.cons_append, sizeL, ih]; omega
theorem sizeL_one (t : Tr) : sizeL [t] = sizeL t.kids + 1 := by simp only [sizeL, Tr.size_kids, Nat.add_zero]
theorem sizeL_get {xs : List Tr} {i : Nat} (h : i < xs.length) : sizeL xs[i].kids + 1 + sizeL (xs.take i) ≤ sizeL xs := by
  have e : xs = xs.take i ++ xs[i] :: xs.drop (i + 1) := by rw [← List.drop_eq_getElem_cons h, List.take_append_drop]
  have e2 := congrArg sizeL e
  rw [sizeL_app, sizeL] at e2
  have := Tr.size_kids xs[i]
  omega
theorem sizeL_len (xs : List Tr) : xs.length ≤ sizeL xs := by
  induction xs with
  | nil => simp [sizeL]
  | cons t r ih => simp only [sizeL, List.length_cons]; have := t.size_kids; omega
theorem sizeL_take_succ {xs : List Tr} {i : Nat} (h : i < xs.length) : sizeL (xs.take (i + 1)) = sizeL (xs.take i) + (sizeL xs[i].kids + 1) := by rw [← List.take_append_getElem h, sizeL_app, sizeL_one]
mutual
/-- Trees with the marks k, k + 1, .. in the places of their kinds and numbers, one behind the other. -/
def markT : Tr → Nat → Tr | .mk _ _ c, k => .mk (k : Int) ((k + 1 : Nat) : Int) (markL c (k + 2))
def markL : List Tr → Nat → List Tr | [], _ => [] | t :: r, k => markT t k :: markL r (k + 2 * t.size)
end
theorem markL_len (xs : List Tr) (k : Nat) : (markL xs k).length = xs.length := by
  induction xs generalizing k with
  | nil => rfl
  | cons t r ih => simp only [markL, List.length_cons, ih]
theorem markT_eq (t : Tr) (k : Nat) : markT t k = .mk (k : Int) ((k + 1 : Nat) : Int) (markL t.kids (k + 2)) := by cases t; simp only [markT, Tr.kids]
theorem markL_app (a b : List Tr) (k : Nat) : markL (a ++ b) k = markL a k ++ markL b (k + 2 * sizeL a) := by
  induction a generalizing k with
  | nil => simp only [List.nil_append, markL, sizeL, Nat.mul_zero, Nat.add_zero]
  | cons t r ih =>
    simp only [List.cons_append, markL, sizeL, ih]
    rw [show k + 2 * t.size + 2 * sizeL r = k + 2 * (t.size + sizeL r) by omega]
mutual
theorem size_mark : ∀ (t : Tr) (k : Nat), (markT t k).size = t.size
  | .mk _ _ c, k => by simp only [markT, Tr.size, sizeL_mark c]
theorem sizeL_mark : ∀ (xs : List Tr) (k : Nat), sizeL (markL xs k) = sizeL xs
  | [], _ => by simp only [markL]
  | t :: r, k => by simp only [markL, sizeL, size_mark t, sizeL_mark r]
end
/-- Marked as far as i. -/
def halfL (k i : Nat) (xs : List Tr) : List Tr := markL (xs.take i) k ++ xs.drop i
theorem halfL_len (k i : Nat) (xs : List Tr) (h : i ≤ xs.length) : (halfL k i xs).length = xs.length := by simp [halfL, markL_len]; omega
theorem halfL_get? (k i j : Nat) (xs : List Tr) (hi : i ≤ xs.length) : (halfL k i xs)[j]? = if j < i then (markL xs k)[j]? else xs[j]? := by
  unfold halfL
  have hl : (markL (xs.take i) k).length = i := by rw [markL_len, List.length_take]; omega
  by_cases h : j < i
  · rw [if_pos h, List.getElem?_append_left (by omega)]
    have e : markL xs k = markL (xs.take i) k ++ markL (xs.drop i) (k + 2 * sizeL (xs.take i)) := by rw [← markL_app, List.take_append_drop]
    rw [e, List.getElem?_append_left (by omega)]
  · rw [if_neg h, List.getElem?_append_right (by omega), hl, List.getElem?_drop]
    congr 1
    omega
theorem halfL_get_lt {k i j : Nat} {xs : List Tr} (h : j < i) (hi : i ≤ xs.length) (hj : j < (halfL k i xs).length) : (halfL k i xs)[j] = (markL xs k)[j]'(by rw [markL_len]; omega) := by
  have e := halfL_get? k i j xs hi
  rw [if_pos h, List.getElem?_eq_getElem hj, List.getElem?_eq_getElem (by rw [markL_len]; omega)] at e
  exact Option.some.inj e
theorem halfL_get_ge {k i j : Nat} {xs : List Tr} (h : i ≤ j) (hi : i ≤ xs.length) (hj : j < (halfL k i xs).length) (hx : j < xs.length) : (halfL k i xs)[j] = xs[j] := by
  have e := halfL_get? k i j xs hi
  rw [if_neg (by omega), List.getElem?_eq_getElem hj, List.getElem?_eq_getElem hx] at e
  exact Option.some.inj e
theorem markL_get {k i : Nat} {xs : List Tr} (h : i < xs.length) : (markL xs k)[i]'(by rw [markL_len]; exact h) = markT xs[i] (k + 2 * sizeL (xs.take i)) := by
  have e : markL xs k = markL (xs.take i) k ++ markL (xs.drop i) (k + 2 * sizeL (xs.take i)) := by rw [← markL_app, List.take_append_drop]
  simp only [e]
  rw [List.getElem_append_right (by rw [markL_len, List.length_take]; omega)]
  simp only [List.drop_eq_getElem_cons h, markL, markL_len, List.length_take]
  have : i - min i xs.length = 0 := by omega
  simp [this]
theorem halfL_succ {k i : Nat} {xs : List Tr} (h : i < xs.length) : halfL k (i + 1) xs = (halfL k i xs).set i (markT xs[i] (k + 2 * sizeL (xs.take i))) := by
  unfold halfL
  rw [List.set_append_right _ _ (by rw [markL_len, List.length_take]; omega), markL_len, List.length_take, show i - min i xs.length = 0 by omega, List.drop_eq_getElem_cons h, List.set_cons_zero, ← List.take_append_getElem h, markL_app]
  simp only [markL, List.append_assoc, List.cons_append, List.nil_append]
theorem halfL_zero (k : Nat) (xs : List Tr) : halfL k 0 xs = xs := by simp [halfL, markL]
theorem halfL_all (k : Nat) (xs : List Tr) : halfL k xs.length xs = markL xs k := by simp [halfL]
/-- The trees that ops begin with, and the ops behind these: none, or one that ends something. -/
inductive Grows : List (Int × Int) → List Tr → List (Int × Int) → Prop
  | stop (xs : List (Int × Int)) (h : ∀ o r, xs = o :: r → o.1 = 5 ∨ o.1 = 7) : Grows xs [] xs
  | leaf (o : Int × Int) (r ys : List (Int × Int)) (ts : List Tr) (h : o.1 ≠ 3 ∧ o.1 ≠ 4 ∧ o.1 ≠ 5 ∧ o.1 ≠ 6 ∧ o.1 ≠ 7) (g : Grows r ts ys) : Grows (o :: r) (.mk o.1 o.2 [] :: ts) ys
  | nest (o : Int × Int) (r r2 ys : List (Int × Int)) (kids ts : List Tr) (h : o.1 = 3 ∨ o.1 = 4 ∨ o.1 = 6) (gk : Grows r kids (endOf o.1 :: r2)) (g : Grows r2 ts ys) : Grows (o :: r) (.mk o.1 o.2 kids :: ts) ys
theorem Grows.size {xs ys : List (Int × Int)} {ts : List Tr} (h : Grows xs ts ys) : sizeL ts + ys.length ≤ xs.length := by
  induction h with
  | stop xs h => simp [sizeL]
  | leaf o r ys ts h g ih => simp only [sizeL, Tr.size, List.length_cons] at ih ⊢; omega
  | nest o r r2 ys kids ts h gk g ih1 ih2 => simp only [sizeL, Tr.size, List.length_cons] at ih1 ih2 ⊢; omega
theorem Grows.suffix {xs ys : List (Int × Int)} {ts : List Tr} (h : Grows xs ts ys) : ys = xs.drop (xs.length - ys.length) := by
  induction h with
  | stop xs h => simp
  | leaf o r ys ts h g ih =>
    have := g.size
    rw [List.length_cons, show r.length + 1 - ys.length = (r.length - ys.length) + 1 by omega, List.drop_succ_cons]
    exact ih
  | nest o r r2 ys kids ts h gk g ih1 ih2 =>
    have h1 := gk.size
    have h2 := g.size
    simp only [List.length_cons] at h1
    have e1 : r2 = r.drop (r.length - r2.length) := by
      have := congrArg (List.drop 1) ih1
      simp only [List.drop_succ_cons, List.drop_zero, List.drop_drop, List.length_cons] at this
      rw [show r.length - (r2.length + 1) + 1 = r.length - r2.length by omega] at this
      exact this
    rw [List.length_cons, show r.length + 1 - ys.length = (r.length - ys.length) + 1 by omega, List.drop_succ_cons]
    rw [show r.length - ys.length = (r.length - r2.length) + (r2.length - ys.length) by omega, ← List.drop_drop, ← e1]
    exact ih2
theorem grows_of : ∀ (m : Nat) (xs : List (Int × Int)) (st : List Int), xs.length ≤ m → xs.all okOp = true → openG xs st = some [] →
    ∃ ts ys, Grows xs ts ys ∧ ((ys = [] ∧ st = []) ∨ ∃ r q st0, ys = endOf q :: r ∧ st = st0 ++ [q] ∧ openG r st0 = some [] ∧ r.all okOp = true) := by
  intro m
  induction m with
  | zero =>
    intro xs st hl ha ho
    obtain rfl : xs = [] := List.eq_nil_of_length_eq_zero (by omega)
    simp [openG] at ho
    exact ⟨[], [], .stop _ (fun o r e => by cases e), .inl ⟨rfl, ho⟩⟩
  | succ m ih =>
    intro xs st hl ha ho
    cases xs with
    | nil =>
      simp [openG] at ho
      exact ⟨[], [], .stop _ (fun o r e => by cases e), .inl ⟨rfl, ho⟩⟩
    | cons o r =>
      simp only [List.all_cons, Bool.and_eq_true] at ha
      simp only [List.length_cons] at hl
      by_cases h5 : o.1 = 5 ∨ o.1 = 7
      · refine ⟨[], o :: r, .stop _ (fun o2 r2 e => by injection e with e1 e2; rw [← e1]; exact h5), .inr ?_⟩
        rcases List.eq_nil_or_concat st with rfl | ⟨l, q, rfl⟩
        · unfold openG at ho
          rw [if_neg (by omega), if_pos h5] at ho
          simp at ho
        · simp only [List.concat_eq_append] at ho ⊢
          unfold openG at ho
          rw [if_neg (by omega), if_pos h5] at ho
          simp only [List.getLast?_append, List.getLast?_singleton, Option.some_or, List.dropLast_concat] at ho
          split at ho
          · rename_i hq
            refine ⟨r, q, l, ?_, rfl, ho, ha.2⟩
            obtain ⟨k, n⟩ := o
            have hn : n = 0 := by
              have hk := ha.1
              unfold okOp at hk
              simp only at h5
              rcases h5 with rfl | rfl <;> simpa using hk
            subst hn
            simp only at h5 hq
            unfold endOf
            by_cases h6 : q = 6
            · rw [if_pos h6, hq.1 h6]
            · rw [if_neg h6, show k = 5 by
                rcases h5 with h | h
                · exact h
                · exact absurd (hq.2 h) h6]
          · cases ho
      · by_cases h3 : o.1 = 3 ∨ o.1 = 4 ∨ o.1 = 6
        · unfold openG at ho
          rw [if_pos h3] at ho
          obtain ⟨kids, ys1, g1, h1⟩ := ih r _ (by omega) ha.2 ho
          rcases h1 with ⟨-, hx⟩ | ⟨r1, q, st0, rfl, hst, ho1, ha1⟩
          · simp at hx
          · obtain ⟨e1, e2⟩ := List.append_inj' hst rfl
            subst e1
            injection e2 with e2 _
            subst e2
            have := g1.size
            simp only [List.length_cons] at this
            obtain ⟨ts, ys, g2, h2⟩ := ih r1 _ (by omega) ha1 ho1
            exact ⟨_, ys, .nest o r r1 ys kids ts h3 g1 g2, h2⟩
        · unfold openG at ho
          rw [if_neg h3, if_neg h5] at ho
          obtain ⟨ts, ys, g2, h2⟩ := ih r _ (by omega) ha.2 ho
          exact ⟨_, ys, .leaf o r ys ts (by omega) g2, h2⟩
/-- The trees of a body with its shape. -/
theorem shape_grows {xs : List (Int × Int)} (h : shapeB xs = true) : ∃ ts, Grows xs ts [] := by
  unfold shapeB at h
  simp only [Bool.and_eq_true, decide_eq_true_eq] at h
  obtain ⟨ts, ys, g, h1⟩ := grows_of xs.length xs [] (Nat.le_refl _) h.2.1 h.2.2
  rcases h1 with ⟨rfl, -⟩ | ⟨r, q, st0, -, hx, -⟩
  · exact ⟨ts, g⟩
  · simp at hx
mutual
/-- The ops of a tree, in order. -/
def flatT : Tr → List (Int × Int) | .mk k n c => (k, n) :: (if k = 3 ∨ k = 4 ∨ k = 6 then flatL c ++ [endOf k] else [])
def flatL : List Tr → List (Int × Int) | [] => [] | t :: r => flatT t ++ flatL r
end
theorem Grows.flat {xs ys : List (Int × Int)} {ts : List Tr} (h : Grows xs ts ys) : xs = flatL ts ++ ys := by
  induction h with
  | stop xs h => simp [flatL]
  | leaf o r ys ts h g ih =>
    rw [flatL, flatT, if_neg (by omega)]
    simp only [List.cons_append, List.nil_append]
    rw [← ih]
  | nest o r r2 ys kids ts h gk g ih1 ih2 =>
    rw [flatL, flatT, if_pos h]
    simp only [List.cons_append, List.append_assoc, List.nil_append]
    rw [← ih2, ← ih1]
end Go.Proofs.Ytlkkobffgbjkpaa
