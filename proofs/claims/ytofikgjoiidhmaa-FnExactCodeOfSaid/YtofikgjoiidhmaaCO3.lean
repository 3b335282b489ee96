/-
  Trees as ops: which trees a body may have.
  Code as plain data: what a body is made into, with the places of definitions still open; out of ops, and out of trees.
  Lists of signed numbers (int): a copy of one, whether two are alike, the marks that are laid into one, whether they lie there.
  Lists of steps (a kind and a number each): a copy of one, whether two are alike, the marks that are laid into one, whether they lie there.
  Lists of steps: whether two are alike, a copy of one, the marks that are laid into one, whether they lie there.
  The maker of code in memory: its box, its four rows, and the boxes that closures hold.
-/
import Derived.Test.YtofikgjoiidhmaaCO2
import Derived.Test.YtofikgjoiidhmaaCO1
import Derived.Handy
import Derived.Deep.RegionHeld3
import Derived.IntWalk
namespace Go.Proofs.Ytofikgjoiidhmaa
open Go.RowKit Go

mutual
/-- A tree whose kinds and kids may be. -/
def Tr.sh : Tr → Bool | .mk k _ c => decide (k ≠ 5 ∧ k ≠ 7) && (if k = 3 ∨ k = 4 ∨ k = 6 then shL c else c.isEmpty)
def shL : List Tr → Bool | [] => true | t :: r => t.sh && shL r
end
theorem shL_app (a b : List Tr) : shL (a ++ b) = (shL a && shL b) := by
  induction a with
  | nil => simp [shL]
  | cons t r ih => simp only [List.cons_append, shL, ih, Bool.and_assoc]
theorem flatL_app (a b : List Tr) : flatL (a ++ b) = flatL a ++ flatL b := by
  induction a with
  | nil => simp [flatL]
  | cons t r ih => simp only [List.cons_append, flatL, ih, List.append_assoc]
theorem flatL_take {xs : List Tr} {i : Nat} (h : i < xs.length) : flatL (xs.take (i + 1)) = flatL (xs.take i) ++ flatT xs[i] := by
  rw [← List.take_append_getElem h, flatL_app, flatL, flatL, List.append_nil]
theorem shL_take {xs : List Tr} {i : Nat} (h : i < xs.length) : shL (xs.take (i + 1)) = (shL (xs.take i) && xs[i].sh) := by
  rw [← List.take_append_getElem h, shL_app, shL, shL, Bool.and_true]
theorem flatT_leaf {k n : Int} {c : List Tr} (h : ¬ (k = 3 ∨ k = 4 ∨ k = 6)) : flatT (.mk k n c) = [(k, n)] := by rw [flatT, if_neg h]
theorem flatT_nest {k n : Int} {c : List Tr} (h : k = 3 ∨ k = 4 ∨ k = 6) : flatT (.mk k n c) = (k, n) :: (flatL c ++ [endOf k]) := by rw [flatT, if_pos h]
theorem flatT_pos (t : Tr) : 1 ≤ (flatT t).length := by cases t with | mk k n c => rw [flatT, List.length_cons]; omega
theorem flatL_split {xs : List Tr} {i : Nat} (h : i < xs.length) : (flatL xs).length = (flatL (xs.take i)).length + (flatT xs[i]).length + (flatL (xs.drop (i + 1))).length := by
  have e : xs = xs.take i ++ xs[i] :: xs.drop (i + 1) := by rw [← List.drop_eq_getElem_cons h, List.take_append_drop]
  have e2 := congrArg (fun l => (flatL l).length) e
  simp only [flatL_app, flatL, List.length_append] at e2
  omega
theorem shL_split {xs : List Tr} {i : Nat} (h : i < xs.length) (hs : shL xs = true) : xs[i].sh = true := by
  have e : xs = xs.take i ++ xs[i] :: xs.drop (i + 1) := by rw [← List.drop_eq_getElem_cons h, List.take_append_drop]
  rw [e, shL_app, shL] at hs
  simp only [Bool.and_eq_true] at hs
  exact hs.2.1
mutual
theorem flatT_len : ∀ t : Tr, (flatT t).length ≤ 2 * t.size
  | .mk k n c => by
    have := flatL_len c
    rw [flatT, Tr.size]
    split <;> simp only [List.length_cons, List.length_append, List.length_nil] <;> omega
theorem flatL_len : ∀ xs : List Tr, (flatL xs).length ≤ 2 * sizeL xs
  | [] => by simp [flatL]
  | t :: r => by
    have := flatT_len t
    have := flatL_len r
    simp only [flatL, List.length_append, sizeL]
    omega
end
mutual
theorem openT_flat : ∀ (t : Tr), t.sh = true → ∀ (r : List (Int × Int)) (st : List Int), openG (flatT t ++ r) st = openG r st
  | .mk k n c, h, r, st => by
    simp only [Tr.sh, Bool.and_eq_true, decide_eq_true_eq] at h
    by_cases h3 : k = 3 ∨ k = 4 ∨ k = 6
    · rw [if_pos h3] at h
      rw [flatT_nest h3, List.cons_append, List.append_assoc]
      rw [openG, if_pos h3, openL_flat c h.2]
      simp only [List.cons_append, List.nil_append]
      rw [openG, if_neg (by unfold endOf; split <;> decide), if_pos (by unfold endOf; split <;> decide)]
      simp only [List.getLast?_append, List.getLast?_singleton, Option.some_or, List.dropLast_concat]
      rw [if_pos]
      unfold endOf
      split <;> omega
    · rw [flatT_leaf h3]
      simp only [List.cons_append, List.nil_append]
      rw [openG, if_neg h3, if_neg (by simp only; omega)]
theorem openL_flat : ∀ (xs : List Tr), shL xs = true → ∀ (r : List (Int × Int)) (st : List Int), openG (flatL xs ++ r) st = openG r st
  | [], _, r, st => by simp [flatL]
  | t :: ts, h, r, st => by
    simp only [shL, Bool.and_eq_true] at h
    rw [flatL, List.append_assoc, openT_flat t h.1, openL_flat ts h.2]
end
theorem shape_flat {xs : List Tr} (h : shL xs = true) : shapeB (flatL xs) = (decide ((flatL xs).length ≤ 60) && (flatL xs).all okOp) := by
  have := openL_flat xs h [] []
  rw [List.append_nil] at this
  unfold shapeB
  rw [this, openG]
  simp
/-- What FlatOf tells. -/
def flat8 (xs : List Tr) : List (Int × Int) := if shL xs = true ∧ (flatL xs).length ≤ 60 ∧ (flatL xs).all okOp = true then flatL xs else []
theorem flat8_len (xs : List Tr) : (flat8 xs).length ≤ 60 := by
  unfold flat8
  split
  · rename_i h; exact h.2.1
  · simp
end Go.Proofs.Ytofikgjoiidhmaa

namespace Go.Proofs.Ytofikgjoiidhmaa
open Go.RowKit Go

/-- What hangs on the end of something: a place to be filled, or a place to go back to. -/
inductive Cl | past (at_ : Nat) | again (to : Nat)
/-- A step whose number may be the place of a definition. -/
abbrev Cd := Int × (Int ⊕ Nat)
def pendC (c : Cd) : Int × Int := (c.1, match c.2 with | .inl n => n | .inr _ => 0)
def resC (st : Nat → Int) (c : Cd) : Int × Int := (c.1, match c.2 with | .inl n => n | .inr k => st k)
/-- The places that are still open, from place a on. -/
def openC : Nat → List Cd → List (Nat × Nat)
  | _, [] => []
  | a, c :: r => match c.2 with | .inl _ => openC (a + 1) r | .inr k => (a, k) :: openC (a + 1) r
theorem openC_app (a : Nat) (xs ys : List Cd) : openC a (xs ++ ys) = openC a xs ++ openC (a + xs.length) ys := by
  induction xs generalizing a with
  | nil => simp [openC]
  | cons c r ih =>
    obtain ⟨o, n⟩ := c
    cases n with
    | inl n => simp only [List.cons_append, openC, ih, List.length_cons]; rw [show a + 1 + r.length = a + (r.length + 1) by omega]
    | inr k => simp only [List.cons_append, openC, ih, List.length_cons]; rw [show a + 1 + r.length = a + (r.length + 1) by omega]
theorem openC_lt {a : Nat} {xs : List Cd} {p : Nat × Nat} (h : p ∈ openC a xs) : a ≤ p.1 ∧ p.1 < a + xs.length := by
  induction xs generalizing a with
  | nil => simp [openC] at h
  | cons c r ih =>
    obtain ⟨o, n⟩ := c
    cases n with
    | inl n => have := ih (a := a + 1) h; simp only [List.length_cons]; omega
    | inr k =>
      simp only [openC, List.mem_cons] at h
      rcases h with rfl | h
      · simp only [List.length_cons]; omega
      · have := ih (a := a + 1) h; simp only [List.length_cons]; omega
def fill1 (st : Nat → Int) (l : List (Int × Int)) (p : Nat × Nat) : List (Int × Int) := l.set p.1 ((l[p.1]?.getD (0, 0)).1, st p.2)
theorem fill_open (st : Nat → Int) : ∀ (xs : List Cd) (pre : List (Int × Int)), (openC pre.length xs).foldl (fill1 st) (pre ++ xs.map pendC) = pre ++ xs.map (resC st) := by
  intro xs
  induction xs with
  | nil => intro pre; simp [openC]
  | cons c r ih =>
    intro pre
    obtain ⟨o, n⟩ := c
    cases n with
    | inl n =>
      have := ih (pre ++ [(o, n)])
      simp only [List.length_append, List.length_singleton, List.append_assoc, List.singleton_append] at this
      simpa only [openC, List.map_cons, pendC, resC] using this
    | inr k =>
      have := ih (pre ++ [(o, st k)])
      simp only [List.length_append, List.length_singleton, List.append_assoc, List.singleton_append] at this
      simp only [openC, List.map_cons, List.foldl_cons]
      have e : fill1 st (pre ++ pendC (o, .inr k) :: r.map pendC) (pre.length, k) = pre ++ (o, st k) :: r.map pendC := by
        simp [fill1, pendC]
      rw [e]
      simpa only [resC] using this
theorem fill1_len (st : Nat → Int) (l : List (Int × Int)) (p : Nat × Nat) : (fill1 st l p).length = l.length := by simp [fill1]
theorem fill_len (st : Nat → Int) (ps : List (Nat × Nat)) (l : List (Int × Int)) : (ps.foldl (fill1 st) l).length = l.length := by
  induction ps generalizing l with
  | nil => rfl
  | cons p r ih => rw [List.foldl_cons, ih, fill1_len]
/-- What is made so far, and what ends wait. -/
structure Mk where
  L : List Cd
  E : List Cl
/-- An op by itself; nothing where it ends what isn't begun. -/
def opM (m : Mk) (o : Int × Int) : Option Mk :=
  if o.1 = 0 then some ⟨m.L ++ [(0, .inl o.2)], m.E⟩
  else if o.1 = 1 then some ⟨m.L ++ [(1, .inl o.2)], m.E⟩
  else if o.1 = 2 then some ⟨m.L ++ [(2, .inr o.2.toNat)], m.E⟩
  else if o.1 = 3 then some ⟨m.L ++ [(4, .inl 0)], m.E ++ [.past m.L.length]⟩
  else if o.1 = 4 then some ⟨m.L ++ [(5, .inl 0)], m.E ++ [.past m.L.length]⟩
  else if o.1 = 6 then some ⟨m.L ++ [(6, .inl 0)], m.E ++ [.again (m.L.length + 1)]⟩
  else if o.1 = 5 ∨ o.1 = 7 then
    match m.E.getLast? with
    | none => none
    | some (.past a) => some ⟨m.L.set a ((m.L[a]?.getD (0, .inl 0)).1, .inl m.L.length), m.E.dropLast⟩
    | some (.again a) => some ⟨m.L ++ [(7, .inl a)], m.E.dropLast⟩
  else if o.1 = 8 then some ⟨m.L ++ [(8, .inl 0)], m.E⟩
  else some m
theorem opM0 (m : Mk) (n : Int) : opM m (0, n) = some ⟨m.L ++ [(0, .inl n)], m.E⟩ := rfl
theorem opM1 (m : Mk) (n : Int) : opM m (1, n) = some ⟨m.L ++ [(1, .inl n)], m.E⟩ := rfl
theorem opM2 (m : Mk) (n : Int) : opM m (2, n) = some ⟨m.L ++ [(2, .inr n.toNat)], m.E⟩ := rfl
theorem opM3 (m : Mk) (n : Int) : opM m (3, n) = some ⟨m.L ++ [(4, .inl 0)], m.E ++ [.past m.L.length]⟩ := rfl
theorem opM4 (m : Mk) (n : Int) : opM m (4, n) = some ⟨m.L ++ [(5, .inl 0)], m.E ++ [.past m.L.length]⟩ := rfl
theorem opM6 (m : Mk) (n : Int) : opM m (6, n) = some ⟨m.L ++ [(6, .inl 0)], m.E ++ [.again (m.L.length + 1)]⟩ := rfl
theorem opM8 (m : Mk) (n : Int) : opM m (8, n) = some ⟨m.L ++ [(8, .inl 0)], m.E⟩ := rfl
theorem opM5 (L : List Cd) (E : List Cl) (k n : Int) (a : Nat) (h : k = 5 ∨ k = 7) : opM ⟨L, E ++ [.past a]⟩ (k, n) = some ⟨L.set a ((L[a]?.getD (0, .inl 0)).1, .inl L.length), E⟩ := by
  rcases h with rfl | rfl <;> simp [opM]
theorem opM7 (L : List Cd) (E : List Cl) (k n : Int) (a : Nat) (h : k = 5 ∨ k = 7) : opM ⟨L, E ++ [.again a]⟩ (k, n) = some ⟨L ++ [(7, .inl a)], E⟩ := by
  rcases h with rfl | rfl <;> simp [opM]
/-- Whether ops begin with a call and an exit behind it. -/
def tailB : List (Int × Int) → Bool
  | o :: p :: _ => decide (o.1 = 2) && decide (p.1 = 8)
  | _ => false
def bodyM (tail : Bool) (xs : List (Int × Int)) (m : Mk) : Option Mk :=
  match xs with
  | [] => some m
  | o :: r =>
    if tail && tailB (o :: r) then bodyM tail (r.drop 1) ⟨m.L ++ [(3, .inr o.2.toNat)], m.E⟩
    else match opM m o with
      | none => none
      | some m2 => bodyM tail r m2
termination_by xs.length
decreasing_by all_goals (simp; try omega)
theorem bodyM_nil (tail : Bool) (m : Mk) : bodyM tail [] m = some m := by rw [bodyM]
theorem bodyM_tail {tail : Bool} {o p : Int × Int} {r : List (Int × Int)} {m : Mk} (h : (tail && tailB (o :: p :: r)) = true) : bodyM tail (o :: p :: r) m = bodyM tail r ⟨m.L ++ [(3, .inr o.2.toNat)], m.E⟩ := by
  rw [bodyM, if_pos h]
  rfl
theorem bodyM_op {tail : Bool} {o : Int × Int} {r : List (Int × Int)} {m : Mk} (h : (tail && tailB (o :: r)) = false) : bodyM tail (o :: r) m = match opM m o with | none => none | some m2 => bodyM tail r m2 := by
  rw [bodyM, if_neg (by rw [h]; decide)]
def exitB : List Tr → Bool
  | t :: _ => decide (t.k = 8)
  | [] => false
mutual
/-- How many steps a tree makes. -/
def wideT (tail pc : Bool) : Tr → Nat
  | .mk k _ c => if k = 8 then (if tail && pc then 0 else 1) else 1 + wideL tail false c + (if k = 6 then 1 else 0)
def wideL (tail pc : Bool) : List Tr → Nat
  | [] => 0
  | t :: r => wideT tail pc t + wideL tail (decide (t.k = 2)) r
end
mutual
/-- The steps of a tree at a place. -/
def codeT (tail pc nx : Bool) (a : Nat) : Tr → List Cd
  | .mk k n c =>
    if k = 0 then [(0, .inl n)]
    else if k = 1 then [(1, .inl n)]
    else if k = 2 then [(if tail && nx then 3 else 2, .inr n.toNat)]
    else if k = 6 then (6, .inl 0) :: (codeL tail false (a + 1) c ++ [(7, .inl ((a + 1 : Nat) : Int))])
    else if k = 8 then (if tail && pc then [] else [(8, .inl 0)])
    else (if k = 4 then 5 else 4, .inl ((a + 1 + wideL tail false c : Nat) : Int)) :: codeL tail false (a + 1) c
def codeL (tail pc : Bool) (a : Nat) : List Tr → List Cd
  | [] => []
  | t :: r => codeT tail pc (exitB r) a t ++ codeL tail (decide (t.k = 2)) (a + wideT tail pc t) r
end
mutual
/-- Trees whose leaves have no kids. -/
def Tr.lf : Tr → Bool | .mk k _ c => if k = 3 ∨ k = 4 ∨ k = 6 then lfL c else decide (k = 0 ∨ k = 1 ∨ k = 2 ∨ k = 8) && c.isEmpty
def lfL : List Tr → Bool | [] => true | t :: r => t.lf && lfL r
end
mutual
theorem codeT_len : ∀ (t : Tr), t.lf = true → ∀ (tail pc nx : Bool) (a : Nat), (codeT tail pc nx a t).length = wideT tail pc t
  | .mk k n c, h, tail, pc, nx, a => by
    rw [Tr.lf] at h
    by_cases h3 : k = 3 ∨ k = 4 ∨ k = 6
    · rw [if_pos h3] at h
      have := codeL_len c h tail false (a + 1)
      rcases h3 with rfl | rfl | rfl
      · simp [codeT, wideT, this]; omega
      · simp [codeT, wideT, this]; omega
      · simp [codeT, wideT, this]; omega
    · rw [if_neg h3, Bool.and_eq_true, decide_eq_true_eq, List.isEmpty_iff] at h
      obtain ⟨hk, rfl⟩ := h
      rcases hk with rfl | rfl | rfl | rfl
      · simp [codeT, wideT, wideL]
      · simp [codeT, wideT, wideL]
      · simp [codeT, wideT, wideL]
      · cases tail <;> cases pc <;> simp [codeT, wideT]
theorem codeL_len : ∀ (xs : List Tr), lfL xs = true → ∀ (tail pc : Bool) (a : Nat), (codeL tail pc a xs).length = wideL tail pc xs
  | [], _, tail, pc, a => by simp [codeL, wideL]
  | t :: r, h, tail, pc, a => by
    rw [lfL, Bool.and_eq_true] at h
    rw [codeL, wideL, List.length_append, codeT_len t h.1, codeL_len r h.2]
end
theorem Grows.lf {xs ys : List (Int × Int)} {ts : List Tr} (h : Grows xs ts ys) (ha : xs.all okOp = true) : lfL ts = true ∧ ys.all okOp = true := by
  induction h with
  | stop xs h => exact ⟨rfl, ha⟩
  | leaf o r ys ts h g ih =>
    simp only [List.all_cons, Bool.and_eq_true] at ha
    have := ih ha.2
    refine ⟨?_, this.2⟩
    have hk : o.1 = 0 ∨ o.1 = 1 ∨ o.1 = 2 ∨ o.1 = 8 := by
      have h1 := ha.1
      unfold okOp at h1
      by_cases h0 : o.1 = 0
      · exact .inl h0
      · by_cases h2 : o.1 = 1
        · exact .inr (.inl h2)
        · by_cases h4 : o.1 = 2
          · exact .inr (.inr (.inl h4))
          · rw [if_neg h0, if_neg h2, if_neg h4, decide_eq_true_eq] at h1
            omega
    rw [lfL, Tr.lf, if_neg (by omega), this.1]
    simp [hk]
  | nest o r r2 ys kids ts h gk g ih1 ih2 =>
    simp only [List.all_cons, Bool.and_eq_true] at ha
    have h1 := ih1 ha.2
    simp only [List.all_cons, Bool.and_eq_true] at h1
    have h2 := ih2 h1.2.2
    exact ⟨by rw [lfL, Tr.lf, if_pos h, h1.1, h2.1]; rfl, h2.2⟩
theorem codeT_pc {tail pc nx : Bool} {a : Nat} {t : Tr} (h : t.k ≠ 8 ∨ tail = false) : codeT tail pc nx a t = codeT tail false nx a t ∧ wideT tail pc t = wideT tail false t := by
  cases t with
  | mk k n c =>
    simp only [Tr.k] at h
    rw [codeT, codeT, wideT, wideT]
    rcases h with h | rfl
    · rw [if_neg h, if_neg h, if_neg h, if_neg h]
      exact ⟨rfl, rfl⟩
    · simp
theorem codeL_pc {tail pc : Bool} {a : Nat} {ts : List Tr} (h : exitB ts = false ∨ tail = false) : codeL tail pc a ts = codeL tail false a ts ∧ wideL tail pc ts = wideL tail false ts := by
  cases ts with
  | nil => simp [codeL, wideL]
  | cons t r =>
    have := codeT_pc (tail := tail) (pc := pc) (nx := exitB r) (a := a) (t := t) (by
      rcases h with h | h
      · left; simpa [exitB] using h
      · right; exact h)
    rw [codeL, codeL, wideL, wideL, this.1, this.2]
    exact ⟨rfl, rfl⟩
theorem Grows.head {o : Int × Int} {r ys : List (Int × Int)} {ts : List Tr} (h : Grows (o :: r) ts ys) (h5 : o.1 ≠ 5 ∧ o.1 ≠ 7) : exitB ts = decide (o.1 = 8) := by
  generalize hx : o :: r = xs at h
  cases h with
  | stop xs h => subst hx; have := h o r rfl; omega
  | leaf o2 r2 ys ts h g => injection hx with h1 h2; subst h1; rfl
  | nest o2 r2 r3 ys kids ts h gk g => injection hx with h1 h2; subst h1; rfl
theorem Grows.head_end {o : Int × Int} {r ys : List (Int × Int)} {ts : List Tr} (h : Grows (o :: r) ts ys) (h5 : o.1 = 5 ∨ o.1 = 7) : ts = [] := by
  generalize hx : o :: r = xs at h
  cases h with
  | stop xs h => rfl
  | leaf o2 r2 ys ts h g => injection hx with h1 h2; subst h1; omega
  | nest o2 r2 r3 ys kids ts h gk g => injection hx with h1 h2; subst h1; omega
theorem Grows.head_nil {ys : List (Int × Int)} {ts : List Tr} (h : Grows [] ts ys) : ts = [] := by
  cases h; rfl
theorem tailB_exit {o : Int × Int} {r ys : List (Int × Int)} {ts : List Tr} (h : Grows r ts ys) : tailB (o :: r) = (decide (o.1 = 2) && exitB ts) := by
  cases r with
  | nil => rw [h.head_nil]; simp [tailB, exitB]
  | cons p q =>
    by_cases h5 : p.1 = 5 ∨ p.1 = 7
    · rw [h.head_end h5]
      simp [tailB, exitB]
      intro _
      omega
    · rw [h.head (by omega)]
      rfl
theorem set_mid {α : Type} (xs : List α) (y z : α) (ys : List α) : (xs ++ y :: ys).set xs.length z = xs ++ z :: ys := by simp
theorem body_grows (tail : Bool) {xs ys : List (Int × Int)} {ts : List Tr} (h : Grows xs ts ys) (ha : xs.all okOp = true) : (∀ m : Mk, bodyM tail xs m = bodyM tail ys ⟨m.L ++ codeL tail false m.L.length ts, m.E⟩) ∧
    (∀ e r, xs = e :: r → e.1 = 8 → tail = true → ∀ m : Mk, bodyM tail r m = bodyM tail ys ⟨m.L ++ codeL tail true m.L.length ts, m.E⟩) := by
  induction h with
  | stop xs h =>
    refine ⟨fun m => by simp [codeL], fun e r hx he ht m => ?_⟩
    have := h e r hx
    omega
  | leaf o r ys ts h g ih =>
    simp only [List.all_cons, Bool.and_eq_true] at ha
    obtain ⟨ih1, ih2⟩ := ih ha.2
    have ht := tailB_exit (o := o) g
    have hk : o.1 = 0 ∨ o.1 = 1 ∨ o.1 = 2 ∨ o.1 = 8 := by
      have h1 := ha.1
      unfold okOp at h1
      by_cases h0 : o.1 = 0
      · exact .inl h0
      · by_cases h2 : o.1 = 1
        · exact .inr (.inl h2)
        · by_cases h4 : o.1 = 2
          · exact .inr (.inr (.inl h4))
          · rw [if_neg h0, if_neg h2, if_neg h4, decide_eq_true_eq] at h1
            omega
    refine ⟨fun m => ?_, fun e r2 hx he htl m => ?_⟩
    · rw [codeL]
      obtain ⟨k, n⟩ := o
      simp only at hk ht
      rcases hk with rfl | rfl | rfl | rfl
      · rw [bodyM_op (by rw [ht]; simp)]
        simp only [opM0]
        rw [ih1]
        simp [codeT, wideT, wideL, Tr.k]
      · rw [bodyM_op (by rw [ht]; simp)]
        simp only [opM1]
        rw [ih1]
        simp [codeT, wideT, wideL, Tr.k]
      · cases htt : (tail && exitB ts) with
        | true =>
          simp only [Bool.and_eq_true] at htt
          obtain ⟨rfl, hx⟩ := htt
          obtain ⟨p, q, rfl⟩ : ∃ p q, r = p :: q := by
            cases r with
            | nil => rw [g.head_nil] at hx; simp [exitB] at hx
            | cons p q => exact ⟨p, q, rfl⟩
          have hp : p.1 = 8 := by
            by_cases h5 : p.1 = 5 ∨ p.1 = 7
            · rw [g.head_end h5] at hx; simp [exitB] at hx
            · rw [g.head (by omega)] at hx; simpa using hx
          rw [bodyM_tail (by rw [ht, hx]; rfl), ih2 p q rfl hp rfl]
          simp [codeT, wideT, wideL, Tr.k, hx]
        | false =>
          rw [bodyM_op (by rw [ht]; simpa using htt)]
          simp only [opM2]
          rw [ih1]
          have hp := codeL_pc (tail := tail) (pc := true) (a := m.L.length + 1) (ts := ts) (by
            cases tail
            · right; rfl
            · left; simpa using htt)
          have hq : (if (tail && exitB ts) = true then (3 : Int) else 2) = 2 := by rw [htt]; rfl
          simp only [Bool.and_eq_true] at hq
          simp [codeT, wideT, wideL, Tr.k, hp.1, hq]
      · rw [bodyM_op (by rw [ht]; simp)]
        simp only [opM8]
        rw [ih1]
        simp [codeT, wideT, Tr.k]
    · injection hx with hx1 hx2
      subst hx1 hx2 htl
      rw [ih1, codeL]
      obtain ⟨k, n⟩ := o
      simp only at he
      subst he
      simp [codeT, wideT, Tr.k]
  | nest o r r2 ys kids ts h gk g ih1 ih2 =>
    simp only [List.all_cons, Bool.and_eq_true] at ha
    have hl := gk.lf ha.2
    have ha2 := hl.2
    simp only [List.all_cons, Bool.and_eq_true] at ha2
    obtain ⟨j1, -⟩ := ih1 ha.2
    obtain ⟨j2, -⟩ := ih2 ha2.2
    refine ⟨fun m => ?_, fun e r3 hx he htl m => ?_⟩
    · have ht := tailB_exit (o := o) gk
      obtain ⟨k, n⟩ := o
      simp only at h ht
      have hte : ∀ q : Int, tailB (endOf q :: r2) = false := fun q => by
        unfold endOf
        cases r2 <;> split <;> simp [tailB]
      rw [codeL]
      rcases h with rfl | rfl | rfl
      · rw [bodyM_op (by rw [ht]; simp)]
        simp only [opM3]
        rw [j1, bodyM_op (by rw [hte]; simp)]
        simp only [endOf]
        rw [if_neg (by decide), opM5 _ _ _ _ _ (by omega)]
        simp only
        rw [j2]
        have hn := codeL_len kids hl.1 tail false (m.L.length + 1)
        simp [codeT, wideT, Tr.k, hn]
        rw [show m.L.length + (1 + wideL tail false kids) = m.L.length + (wideL tail false kids + 1) by omega, show (m.L.length : Int) + ((wideL tail false kids : Int) + 1) = (m.L.length : Int) + 1 + (wideL tail false kids : Int) by omega]
      · rw [bodyM_op (by rw [ht]; simp)]
        simp only [opM4]
        rw [j1, bodyM_op (by rw [hte]; simp)]
        simp only [endOf]
        rw [if_neg (by decide), opM5 _ _ _ _ _ (by omega)]
        simp only
        rw [j2]
        have hn := codeL_len kids hl.1 tail false (m.L.length + 1)
        simp [codeT, wideT, Tr.k, hn]
        rw [show m.L.length + (1 + wideL tail false kids) = m.L.length + (wideL tail false kids + 1) by omega, show (m.L.length : Int) + ((wideL tail false kids : Int) + 1) = (m.L.length : Int) + 1 + (wideL tail false kids : Int) by omega]
      · rw [bodyM_op (by rw [ht]; simp)]
        simp only [opM6]
        rw [j1, bodyM_op (by rw [hte]; simp)]
        simp only [endOf]
        rw [if_pos trivial, opM7 _ _ _ _ _ (by omega)]
        simp only
        rw [j2]
        have hn := codeL_len kids hl.1 tail false (m.L.length + 1)
        simp [codeT, wideT, Tr.k, hn]
        rw [show m.L.length + (1 + wideL tail false kids + 1) = m.L.length + (wideL tail false kids + 1 + 1) by omega]
    · injection hx with hx1 hx2
      subst hx1
      omega
end Go.Proofs.Ytofikgjoiidhmaa

namespace Go.Proofs.Ytofikgjoiidhmaa
open Go.RowKit Go

def lv (n : Int) : Value := .int .i64 n
/-- A list of numbers that can be read. -/
def RdL (w : World) (v : Value) (xs : List Int) : Prop :=
  ∃ (A : Option Addr) (cap : Nat), v = .slice A xs.length cap ∧ xs.length ≤ 4611686018427387904 ∧ ∀ i (h : i < xs.length), ∃ a, A = some a ∧ a.block < w.heap.size ∧ w.cell? (a.add i) = some (lv xs[i])
theorem RdL.below {w w' : World} {v : Value} {xs : List Int} (h : RdL w v xs) (hb : Below w.heap.size w w') : RdL w' v xs := by
  obtain ⟨A, cap, rfl, hl, hc⟩ := h
  refine ⟨A, cap, rfl, hl, fun i hi => ?_⟩
  obtain ⟨a, rfl, e2, e3⟩ := hc i hi
  exact ⟨a, rfl, by have := hb.size; omega, (hb.cell (by rw [addr_addb]; exact e2)).trans e3⟩
theorem RdL.of_own {w : World} {base : Nat} {e : TypeId} {v : Value} {xs : List Int} (h : w.ownsRow base e 1 v xs.length (xs.map lv)) (hl : xs.length ≤ 4611686018427387904) : RdL w v xs := by
  rcases h.2 with ⟨rfl, h0⟩ | ⟨g, cap, cur, rfl, hb, hg, hn, hm, hsz, ht⟩
  · refine ⟨none, 0, by rw [h0], hl, fun i hi => by omega⟩
  · refine ⟨_, cap, rfl, hl, fun i hi => ⟨⟨g, 0, none⟩, rfl, (Array.getElem?_eq_some_iff.1 hg).1, ?_⟩⟩
    rw [addr_lit, Nat.zero_add, cell_of_row w g i cur e (0, 0) hg]
    have h1 := congrArg (·[i]?) ht
    simpa [List.getElem?_take, hi] using h1
theorem RdL.form {w : World} {v : Value} {xs : List Int} (h : RdL w v xs) : ∃ A cap, v = .slice A xs.length cap := by
  obtain ⟨A, cap, e, -⟩ := h
  exact ⟨A, cap, e⟩
/-- A new list of numbers. -/
def NewL (w : World) (xs : List Int) (e : Ending) (w' : World) : Prop := ∃ v, e = .returned v ∧ w'.ownsRow w.heap.size 3 1 v xs.length (xs.map lv) ∧ Below w.heap.size w w'

set_option maxHeartbeats 1000000 in
theorem eqL_same (a b : Value) (xs : List Int) (w : World) (ha : RdL w a xs) (hb : RdL w b xs) :
    Calls Try.prog 10 #[a, b] w fun e w' => e = .returned (.bool true) ∧ ∃ d, w' = w.drewN d := by
  obtain ⟨A, ca, rfl, hla, hca⟩ := ha
  obtain ⟨B, cb, rfl, hlb, hcb⟩ := hb
  have HA := Lib.hid hca
  have HB := Lib.hid hcb
  clear hca hcb
  have hl' : ((xs.length : Int) != (xs.length : Int)) = false := by simp
  go_enter Try.func10, Try.ntmps10
  go_wp2
  go_loopw [5] (fun vi wr => ∃ i d : Nat, vi = .int .i64 i ∧ i ≤ xs.length ∧ Hid (wr = w.drewN d)) (fun vi _ => xs.length - (intOf vi).toNat)
  case atStart => exact ⟨0, 0, rfl, by omega, by rw [World.drewN_zero]; rfl⟩
  case round =>
    obtain ⟨i, d, rfl, hi, HW⟩ := hrel
    by_cases hp : i < xs.length
    · obtain ⟨ga, rfl, -, ha⟩ := HA.out i hp
      obtain ⟨gb, rfl, -, hb⟩ := HB.out i hp
      obtain ⟨x, hx⟩ : ∃ x, xs[i] = x := ⟨_, rfl⟩
      rw [hx] at ha hb
      have hcA : wr.cell? (ga.add i) = some (.int .i64 x) := by rw [HW.out]; exact ha
      have hcB : wr.cell? (gb.add i) = some (.int .i64 x) := by rw [HW.out]; exact hb
      have i1 : (0 : Int) ≤ (i : Int) := by omega
      have i2 : (i : Int) < (xs.length : Int) := by omega
      have hxx : (x != x) = false := by simp
      clear ha hb hx
      go_wp2
      go_quiet (fail)
      go_wp2
      go_roundw
      case rel => exact ⟨i + 1, _, by go_num, by omega, by rw [HW.out, World.drewN_drewN]; rfl⟩
      case measure => simp [intOf]; omega
    · go_wp2
      go_ret
      exact ⟨rfl, d, HW.out⟩

/-- n marks, from k on. -/
def marksL (k n : Nat) : List Int := (List.range n).map fun j => ((k + j : Nat) : Int)
theorem marksL_len (k n : Nat) : (marksL k n).length = n := by simp [marksL]
theorem marksL_succ (k i : Nat) : marksL k (i + 1) = marksL k i ++ [((k + i : Nat) : Int)] := by unfold marksL; rw [List.range_succ]; simp
theorem marksL_set {xs : List Int} {k i : Nat} (h : i < xs.length) : ((marksL k i ++ xs.drop i).map lv).set i (.int .i64 ((k : Int) + (i : Int))) = (marksL k (i + 1) ++ xs.drop (i + 1)).map lv := by
  have e : Value.int .i64 ((k : Int) + (i : Int)) = lv ((k + i : Nat) : Int) := by unfold lv; push_cast; rfl
  rw [e, marksL_succ, List.map_append, List.map_append, List.set_append_right _ _ (by simp [marksL_len]), List.length_map, marksL_len, Nat.sub_self, List.drop_eq_getElem_cons h, List.map_cons, List.set_cons_zero]
  simp
/-- Where marking stands: block g holds i marks, then what it held. -/
structure MarkedL (W wr : World) (g : Nat) (n : Nat) (xs : List Int) (k i : Nat) (cap : Nat) (cur : Array Value) : Prop where
  blk : Blk wr g 3 cur
  size : cur.size = cap
  take : cur.toList.take n = (marksL k i ++ xs.drop i).map lv
  grown : W.grownBy wr (some g)
theorem MarkedL.step {W wr : World} {g : Nat} {xs : List Int} {k i cap : Nat} {cur : Array Value} (h : MarkedL W wr g xs.length xs k i cap cur) (hi : i < xs.length) :
    MarkedL W (wr.setCell ⟨g, i, none⟩ (.int .i64 ((k : Int) + (i : Int)))) g xs.length xs k (i + 1) cap (cur.setIfInBounds i (.int .i64 ((k : Int) + (i : Int)))) := by
  refine ⟨h.blk.put _ _, by simpa using h.size, ?_, only_setCell h.grown (.inl rfl) _⟩
  rw [Array.toList_setIfInBounds, List.take_set, h.take, marksL_set hi]
theorem MarkedL.cell {W wr : World} {g n : Nat} {xs : List Int} {k i cap : Nat} {cur : Array Value} (h : MarkedL W wr g n xs k i cap cur) (hi : i < cap) : ∃ u, wr.cell? ⟨g, i, none⟩ = some u ∧ wr.frozen? ⟨g, i, none⟩ = false := by
  have hs := h.size
  exact ⟨cur[i]'(by omega), by rw [h.blk.cell, Array.getElem?_eq_getElem (by omega)], h.blk.frozen i⟩

set_option maxHeartbeats 1000000 in
theorem markL_any (base : Nat) (v : Value) (xs : List Int) (k : Nat) (h1 : k ≤ 8388608) (hx : xs.length ≤ 4194304) (W : World) (hown : W.ownsRow base 3 1 v xs.length (xs.map lv)) :
    Calls Try.prog 14 #[v, .int .i64 k] W fun e w' => e = .returned (.int .i64 ((k : Int) + xs.length)) ∧ w'.ownsRow base 3 1 v xs.length ((marksL k xs.length).map lv) ∧ W.grownBy w' v.ownBlock := by
  rcases hown.2 with ⟨rfl, hn0⟩ | ⟨g, cap, cur, rfl, hb, hg, hn, hm, hsz, ht⟩
  · have hxs : xs = [] := List.eq_nil_of_length_eq_zero hn0
    subst hxs
    clear hown
    go_enter Try.func14, Try.ntmps14
    go_wp2
    go_loop [1, 5] (fun vk vi => vk = .int .i64 k ∧ vi = .int .i64 0) (fun _ _ => 0)
    case atStart => exact ⟨rfl, rfl⟩
    case round =>
      obtain ⟨rfl, rfl⟩ := hrel
      go_wp2
      go_ret
      exact ⟨by simp, World.ownsRow_nil _ _ _ _, World.grownBy.refl _ _⟩
  · have hstart : MarkedL W W g xs.length xs k 0 cap cur := ⟨hg, by simpa using hsz, by simpa [marksL] using ht, World.grownBy.refl _ _⟩
    clear hown hsz ht hg
    unfold maxLen at hm
    go_enter Try.func14, Try.ntmps14
    go_wp2
    go_loopw [1, 5] (fun vk vi wr => ∃ (i : Nat) (cur : Array Value), vi = .int .i64 i ∧ vk = .int .i64 ((k + i : Nat) : Int) ∧ i ≤ xs.length ∧ MarkedL W wr g xs.length xs k i cap cur) (fun _ vi _ => xs.length - (intOf vi).toNat)
    case atStart => exact ⟨0, cur, rfl, rfl, by omega, hstart⟩
    case round =>
      obtain ⟨i, cur2, rfl, rfl, hi, hM⟩ := hrel
      clear hstart
      by_cases hp : i < xs.length
      · have i1 : (i : Int) < (xs.length : Int) := by omega
        obtain ⟨u, hcu, hfu⟩ := hM.cell (show i < cap by omega)
        go_wp2
        go_roundw
        case rel => exact ⟨i + 1, _, by go_num, by go_num, by omega, hM.step hp⟩
        case measure => simp [intOf]; omega
      · obtain rfl : i = xs.length := by omega
        go_wp2
        go_ret
        refine ⟨by simp, ⟨by simp [marksL_len], .inr ⟨g, cap, cur2, rfl, hb, hM.blk, hn, by unfold maxLen; omega, by simpa using hM.size, ?_⟩⟩, hM.grown⟩
        have := hM.take
        simpa using this

theorem marksL_get (k n i : Nat) (h : i < (marksL k n).length) : (marksL k n)[i] = (k : Int) + (i : Int) := by simp [marksL]
set_option maxHeartbeats 1000000 in
theorem heldL_any (v : Value) (k n : Nat) (h1 : k ≤ 8388608) (hx : n ≤ 4194304) (w : World) (ha : RdL w v (marksL k n)) :
    Calls Try.prog 16 #[v, .int .i64 k] w fun e w' => e = .returned (.int .i64 ((k : Int) + n)) ∧ w = w' := by
  obtain ⟨A, ca, rfl, hla, hca⟩ := ha
  rw [marksL_len]
  have HA : Hid (∀ i, i < n → ∃ a, A = some a ∧ w.cell? (a.add i) = some (.int .i64 ((k : Int) + (i : Int)))) := Lib.hid fun i hi => by
    obtain ⟨a, h1, -, h3⟩ := hca i (by rw [marksL_len]; exact hi)
    refine ⟨a, h1, ?_⟩
    rw [h3, marksL_get]
    rfl
  clear hca hla
  go_enter Try.func16, Try.ntmps16
  go_wp2
  go_loop [1, 5] (fun vk vi => ∃ i : Nat, vi = .int .i64 i ∧ vk = .int .i64 ((k : Int) + (i : Int)) ∧ i ≤ n) (fun _ vi => n - (intOf vi).toNat)
  case atStart => exact ⟨0, rfl, by simp, by omega⟩
  case round =>
    obtain ⟨i, rfl, rfl, hi⟩ := hrel
    by_cases hp : i < n
    · have i2 : (i : Int) < (n : Int) := by omega
      obtain ⟨a, rfl, hc⟩ := HA.out i hp
      go_wp2
      go_round
      case rel => exact ⟨i + 1, by go_num, by go_num, by omega⟩
      case measure => simp [intOf]; omega
    · obtain rfl : i = n := by omega
      go_wp2
      go_ret
      exact ⟨rfl, rfl⟩

theorem infoL : (Try.prog.info? 3).map (fun i => (i.zero, i.size, i.bytes)) = some (some (.int .i64 0), 1, 8) := by kernel_rfl
def copiedL (xs : List Int) (i : Nat) : List Int := xs.take i ++ List.replicate (xs.length - i) 0
theorem copiedL_len (xs : List Int) (i : Nat) (h : i ≤ xs.length) : (copiedL xs i).length = xs.length := by simp [copiedL]; omega
theorem copiedL_zero (xs : List Int) : (copiedL xs 0).map lv = List.replicate xs.length (.int .i64 0) := by simp [copiedL, lv]
theorem copiedL_full (xs : List Int) : copiedL xs xs.length = xs := by simp [copiedL]
theorem copiedL_set {xs : List Int} {i : Nat} (h : i < xs.length) : ((copiedL xs i).map lv).set i (.int .i64 xs[i]) = (copiedL xs (i + 1)).map lv := by
  have e : Value.int .i64 xs[i] = lv xs[i] := rfl
  rw [e, List.map_set.symm]
  congr 1
  unfold copiedL
  obtain ⟨m, hm⟩ : ∃ m, xs.length - i = m + 1 := ⟨xs.length - i - 1, by omega⟩
  rw [hm, show xs.length - (i + 1) = m by omega, List.replicate_succ, List.set_append_right _ _ (by simp; omega)]
  have : i - (xs.take i).length = 0 := by simp; omega
  rw [this, List.set_cons_zero, List.take_succ_eq_append_getElem h, List.append_assoc]
  rfl

end Go.Proofs.Ytofikgjoiidhmaa

namespace Go.Proofs.Ytofikgjoiidhmaa
open Go.RowKit Go

abbrev cdV (s : Int × Int) : Value := .agg #[.int .i64 s.1, .int .i64 s.2]
def cdv : List (Int × Int) → List Value
  | [] => []
  | s :: r => .int .i64 s.1 :: .int .i64 s.2 :: cdv r
theorem cdv_len (xs : List (Int × Int)) : (cdv xs).length = xs.length * 2 := by
  induction xs with
  | nil => rfl
  | cons s r ih => simp only [cdv, List.length_cons, ih]; omega
theorem cdv_app (xs ys : List (Int × Int)) : cdv (xs ++ ys) = cdv xs ++ cdv ys := by
  induction xs with
  | nil => rfl
  | cons s r ih => simp only [cdv, List.cons_append, ih]
theorem cdv_get0 {xs : List (Int × Int)} {i : Nat} (h : i < xs.length) : (cdv xs)[i * 2]? = some (.int .i64 xs[i].1) := by
  induction xs generalizing i with
  | nil => simp at h
  | cons s r ih =>
    cases i with
    | zero => simp [cdv]
    | succ i =>
      have := ih (i := i) (by simpa using h)
      rw [show (i + 1) * 2 = i * 2 + 2 by omega]
      simpa [cdv] using this
theorem cdv_get1 {xs : List (Int × Int)} {i : Nat} (h : i < xs.length) : (cdv xs)[i * 2 + 1]? = some (.int .i64 xs[i].2) := by
  induction xs generalizing i with
  | nil => simp at h
  | cons s r ih =>
    cases i with
    | zero => simp [cdv]
    | succ i =>
      have := ih (i := i) (by simpa using h)
      rw [show (i + 1) * 2 + 1 = i * 2 + 1 + 2 by omega]
      simpa [cdv] using this
theorem cdv_set0 {xs : List (Int × Int)} {i : Nat} (h : i < xs.length) (m : Int) : (cdv xs).set (i * 2) (.int .i64 m) = cdv (xs.set i (m, xs[i].2)) := by
  induction xs generalizing i with
  | nil => simp at h
  | cons s r ih =>
    cases i with
    | zero => simp [cdv]
    | succ i =>
      have := ih (i := i) (by simpa using h)
      rw [show (i + 1) * 2 = i * 2 + 2 by omega]
      simpa [cdv] using this
theorem cdv_set1 {xs : List (Int × Int)} {i : Nat} (h : i < xs.length) (m : Int) : (cdv xs).set (i * 2 + 1) (.int .i64 m) = cdv (xs.set i (xs[i].1, m)) := by
  induction xs generalizing i with
  | nil => simp at h
  | cons s r ih =>
    cases i with
    | zero => simp [cdv]
    | succ i =>
      have := ih (i := i) (by simpa using h)
      rw [show (i + 1) * 2 + 1 = i * 2 + 1 + 2 by omega]
      simpa [cdv] using this
theorem cdv_set {xs : List (Int × Int)} {i : Nat} (h : i < xs.length) (s : Int × Int) : ((cdv xs).set (i * 2) (.int .i64 s.1)).set (i * 2 + 1) (.int .i64 s.2) = cdv (xs.set i s) := by
  rw [cdv_set0 h, cdv_set1 (by simpa using h)]
  simp
theorem cdv_one : ∀ {xs : List (Int × Int)}, ∀ u ∈ cdv xs, u.oneCell' = true := by
  intro xs
  induction xs with
  | nil => intro u hu; cases hu
  | cons s r ih =>
    intro u hu
    simp only [cdv, List.mem_cons] at hu
    rcases hu with rfl | rfl | hu
    · rfl
    · rfl
    · exact ih u hu
/-- A list of steps that can be read. -/
def RdIc (w : World) (v : Value) (xs : List (Int × Int)) : Prop :=
  ∃ (A : Option Addr) (cap : Nat), v = .slice A xs.length cap ∧ xs.length ≤ 4611686018427387904 ∧ ∀ i (h : i < xs.length), ∃ a, A = some a ∧ a.block < w.heap.size ∧ w.cell? (a.add (i * 2)) = some (.int .i64 xs[i].1) ∧ w.cell? ((a.add (i * 2)).add 1) = some (.int .i64 xs[i].2)
theorem RdIc.below {w w' : World} {v : Value} {xs : List (Int × Int)} (h : RdIc w v xs) (hb : Below w.heap.size w w') : RdIc w' v xs := by
  obtain ⟨A, cap, rfl, hl, hc⟩ := h
  refine ⟨A, cap, rfl, hl, fun i hi => ?_⟩
  obtain ⟨a, rfl, e2, e3, e4⟩ := hc i hi
  exact ⟨a, rfl, by have := hb.size; omega, (hb.cell (by rw [addr_addb]; exact e2)).trans e3, (hb.cell (by rw [addr_addb, addr_addb]; exact e2)).trans e4⟩
theorem RdIc.of_own {w : World} {base : Nat} {e : TypeId} {v : Value} {xs : List (Int × Int)} (h : w.ownsRow base e 2 v xs.length (cdv xs)) (hl : xs.length ≤ 4611686018427387904) : RdIc w v xs := by
  rcases h.2 with ⟨rfl, h0⟩ | ⟨g, cap, cur, rfl, hb, hg, hn, hm, hsz, ht⟩
  · refine ⟨none, 0, by rw [h0], hl, fun i hi => by omega⟩
  · refine ⟨_, cap, rfl, hl, fun i hi => ⟨⟨g, 0, none⟩, rfl, (Array.getElem?_eq_some_iff.1 hg).1, ?_, ?_⟩⟩
    · rw [addr_lit, Nat.zero_add, cell_of_row w g (i * 2) cur e (0, 0) hg]
      have h1 := congrArg (·[i * 2]?) ht
      simp only [cdv_get0 hi, List.getElem?_take] at h1
      rw [if_pos (by omega)] at h1
      simpa using h1
    · rw [addr_lit, Nat.zero_add, addr_lit, cell_of_row w g (i * 2 + 1) cur e (0, 0) hg]
      have h1 := congrArg (·[i * 2 + 1]?) ht
      simp only [cdv_get1 hi, List.getElem?_take] at h1
      rw [if_pos (by omega)] at h1
      simpa using h1
theorem RdIc.form {w : World} {v : Value} {xs : List (Int × Int)} (h : RdIc w v xs) : ∃ A cap, v = .slice A xs.length cap := by
  obtain ⟨A, cap, e, -⟩ := h
  exact ⟨A, cap, e⟩
/-- A new list of steps. -/
def NewIc (w : World) (xs : List (Int × Int)) (e : Ending) (w' : World) : Prop := ∃ v, e = .returned v ∧ w'.ownsRow w.heap.size 55 2 v xs.length (cdv xs) ∧ Below w.heap.size w w'
/-- n marks, from k on. -/
def marksIc (k n : Nat) : List (Int × Int) := (List.range n).map fun (j : Nat) => (((k + 2 * j : Nat) : Int), ((k + 2 * j + 1 : Nat) : Int))
theorem marksIc_len (k n : Nat) : (marksIc k n).length = n := by simp [marksIc]
theorem marksIc_succ (k i : Nat) : marksIc k (i + 1) = marksIc k i ++ [(((k + 2 * i : Nat) : Int), ((k + 2 * i + 1 : Nat) : Int))] := by unfold marksIc; rw [List.range_succ, List.map_append, List.map_cons, List.map_nil]
theorem marksIc_get (k n i : Nat) (h : i < (marksIc k n).length) : (marksIc k n)[i] = ((k : Int) + 2 * (i : Int), (k : Int) + 2 * (i : Int) + 1) := by simp [marksIc]
def halfIc (k i : Nat) (xs : List (Int × Int)) : List (Int × Int) := marksIc k i ++ xs.drop i
theorem halfIc_len (k i : Nat) (xs : List (Int × Int)) (h : i ≤ xs.length) : (halfIc k i xs).length = xs.length := by simp [halfIc, marksIc_len]; omega
theorem halfIc_set {xs : List (Int × Int)} {k i : Nat} (h : i < xs.length) : (halfIc k i xs).set i ((k : Int) + 2 * (i : Int), (k : Int) + 2 * (i : Int) + 1) = halfIc k (i + 1) xs := by
  unfold halfIc
  rw [marksIc_succ, List.set_append_right _ _ (by simp [marksIc_len]), marksIc_len, Nat.sub_self, List.drop_eq_getElem_cons h, List.set_cons_zero]
  simp

end Go.Proofs.Ytofikgjoiidhmaa

namespace Go.Proofs.Ytofikgjoiidhmaa
open Go.RowKit Go

/-- The cells of one step of a list, as the walk spells them. -/
theorem RdIc.item {w : World} {A : Option Addr} {n cap : Nat} {xs : List (Int × Int)} (h : RdIc w (.slice A n cap) xs) {i : Nat} (hi : i < xs.length) : ∃ a, A = some a ∧ a.block < w.heap.size ∧ w.cell? (a.add (i * 2)) = some (.int .i64 xs[i].1) ∧ w.cell? ⟨(a.add (i * 2)).block, (a.add (i * 2)).off + 1, none⟩ = some (.int .i64 xs[i].2) := by
  obtain ⟨A3, c4, hv4, -, hc4⟩ := h
  injection hv4 with e1 e2 e3
  subst e1 e3
  obtain ⟨a, rfl, hb, q0, q1⟩ := hc4 i hi
  exact ⟨a, rfl, hb, q0, q1⟩
theorem infoIc : (Try.prog.info? 55).map (fun i => (i.zero, i.size, i.bytes)) = some (some (.agg #[.int .i64 0, .int .i64 0]), 2, 16) := by kernel_rfl

set_option maxHeartbeats 1000000 in
theorem eqins_same (x y : Int) (w : World) : Calls Try.prog 30 #[.agg #[.int .i64 x, .int .i64 y], .agg #[.int .i64 x, .int .i64 y]] w fun e w' => e = .returned (.bool true) ∧ Below w.heap.size w w' := by
  have q0 : (x != x) = false := by simp
  have q1 : (y != y) = false := by simp
  go_enter Try.func30, Try.ntmps30
  go_wp2
  go_ret
  exact ⟨rfl, by go_grown⟩

set_option maxHeartbeats 4000000 in
theorem eqIc_same (a b : Value) (xs : List (Int × Int)) (w : World) (ha : RdIc w a xs) (hb : RdIc w b xs) :
    Calls Try.prog 9 #[a, b] w fun e w' => e = .returned (.bool true) ∧ Below w.heap.size w w' := by
  obtain ⟨A, ca, rfl⟩ := ha.form
  obtain ⟨B, cb, rfl⟩ := hb.form
  have HA := Lib.hid (fun W (h : Below w.heap.size w W) => ha.below h)
  have HB := Lib.hid (fun W (h : Below w.heap.size w W) => hb.below h)
  have hm : xs.length ≤ 4611686018427387904 := by
    obtain ⟨_, _, _, h, _⟩ := ha
    exact h
  clear ha hb
  have hl' : ((xs.length : Int) != (xs.length : Int)) = false := by simp
  go_enter Try.func9, Try.ntmps9
  go_wp2
  go_loopw [5] (fun vi wr => ∃ i : Nat, vi = .int .i64 i ∧ i ≤ xs.length ∧ Hid (Below w.heap.size w wr)) (fun vi _ => xs.length - (intOf vi).toNat)
  case atStart => exact ⟨0, rfl, by omega, Lib.hid (Below.refl _ _)⟩
  case round =>
    obtain ⟨i, rfl, hi, HW⟩ := hrel
    by_cases hp : i < xs.length
    · obtain ⟨a, rfl, la, p0, p1⟩ := (HA.out wr HW.out).item hp
      obtain ⟨b, rfl, lb, q0, q1⟩ := (HB.out wr HW.out).item hp
      obtain ⟨x, hx⟩ : ∃ x, xs[i] = x := ⟨_, rfl⟩
      obtain ⟨x1, x2⟩ := x
      rw [hx] at p0 p1 q0 q1
      have LA : Hid ((a.add (i * 2)).block < wr.heap.size) := Lib.hid (by rw [addr_addb]; exact la)
      have LB : Hid ((b.add (i * 2)).block < wr.heap.size) := Lib.hid (by rw [addr_addb]; exact lb)
      have i1 : (0 : Int) ≤ (i : Int) := by omega
      have i2 : (i : Int) < (xs.length : Int) := by omega
      clear hx la lb
      go_wp2_with fail
      go_region_held3 (fun w' => w'.cell? (a.add (i * 2)) = some (.int .i64 x1) ∧ w'.cell? ⟨(a.add (i * 2)).block, (a.add (i * 2)).off + 1, none⟩ = some (.int .i64 x2) ∧ w'.cell? (b.add (i * 2)) = some (.int .i64 x1) ∧ w'.cell? ⟨(b.add (i * 2)).block, (b.add (i * 2)).off + 1, none⟩ = some (.int .i64 x2)) (first | exact ⟨p0, p1, q0, q1⟩ | go_keep | exact ⟨(hbV.cell LA.out).trans p0, (hbV.cell (p := ⟨(a.add (i * 2)).block, (a.add (i * 2)).off + 1, none⟩) LA.out).trans p1, (hbV.cell LB.out).trans q0, (hbV.cell (p := ⟨(b.add (i * 2)).block, (b.add (i * 2)).off + 1, none⟩) LB.out).trans q1⟩) ((go_at_call 30; refine (eqins_same _ _ _).mono ?_; rintro e V ⟨rfl, hbV⟩))
      have HW2 := Lib.hid (HW.out.trans (((Below.refl wr.heap.size wr).drew.trans hbV).mono HW.out.size))
      clear hbV HW p0 p1 q0 q1
      go_wp2_with fail
      go_roundw
      case rel => exact ⟨i + 1, by go_num, by omega, HW2⟩
      case measure => simp [intOf]; omega
    · go_wp2
      go_ret
      exact ⟨rfl, HW.out⟩

theorem cdv_mid {xs : List (Int × Int)} {k i : Nat} (h : i < xs.length) : ((cdv (halfIc k i xs)).set (i * 2) (.int .i64 ((k : Int) + 2 * (i : Int)))).set (i * 2 + 1) (.int .i64 ((k : Int) + 2 * (i : Int) + 1)) = cdv (halfIc k (i + 1) xs) := by
  have hl := halfIc_len k i xs (by omega)
  rw [cdv_set (xs := halfIc k i xs) (by omega) ((k : Int) + 2 * (i : Int), (k : Int) + 2 * (i : Int) + 1), halfIc_set h]
set_option maxHeartbeats 4000000 in
theorem markIc_any (base : Nat) (v : Value) (xs : List (Int × Int)) (k : Nat) (h1 : k ≤ 8388608) (hx : xs.length ≤ 4194304) (W : World) (hown : W.ownsRow base 55 2 v xs.length (cdv xs)) :
    Calls Try.prog 13 #[v, .int .i64 k] W fun e w' => e = .returned (.int .i64 ((k : Int) + 2 * (xs.length : Int))) ∧ w'.ownsRow base 55 2 v xs.length (cdv (marksIc k xs.length)) ∧ W.grownBy w' v.ownBlock := by
  have hform := hown.2
  rcases hform with ⟨rfl, hn0⟩ | ⟨g, cap, cur, rfl, -⟩
  · have hxs : xs = [] := List.eq_nil_of_length_eq_zero hn0
    subst hxs
    clear hown
    go_enter Try.func13, Try.ntmps13
    go_wp2
    go_loop [1, 5] (fun vk vi => vk = .int .i64 k ∧ vi = .int .i64 0) (fun _ _ => 0)
    case atStart => exact ⟨rfl, rfl⟩
    case round =>
      obtain ⟨rfl, rfl⟩ := hrel
      go_wp2
      go_ret
      exact ⟨by simp, World.ownsRow_nil _ _ _ _, World.grownBy.refl _ _⟩
  · go_enter Try.func13, Try.ntmps13
    go_wp2
    go_loopw [1, 5] (fun vk vi wr => ∃ i : Nat, vi = .int .i64 i ∧ vk = .int .i64 ((k : Int) + 2 * (i : Int)) ∧ i ≤ xs.length ∧ Hid (wr.ownsRow base 55 2 (.slice (some ⟨g, 0, none⟩) xs.length cap) xs.length (cdv (halfIc k i xs))) ∧ Hid (W.grownBy wr (some g))) (fun _ vi _ => xs.length - (intOf vi).toNat)
    case atStart => exact ⟨0, rfl, by simp, by omega, Lib.hid (by simpa [halfIc, marksIc] using hown), Lib.hid (World.grownBy.refl _ _)⟩
    case round =>
      obtain ⟨i, rfl, rfl, hi, HO, HG⟩ := hrel
      clear hown
      by_cases hp : i < xs.length
      · have i1 : (i : Int) < (xs.length : Int) := by omega
        have hl := halfIc_len k i xs (by omega)
        obtain ⟨u0, c0⟩ : ∃ u, wr.cell? ⟨g, i * 2, none⟩ = some u := ⟨_, (HO.out.cellAt (i * 2) (by omega)).trans (cdv_get0 (by omega))⟩
        obtain ⟨u1, c1⟩ : ∃ u, wr.cell? ⟨g, i * 2 + 1, none⟩ = some u := ⟨_, (HO.out.cellAt (i * 2 + 1) (by omega)).trans (cdv_get1 (by omega))⟩
        have f0 := HO.out.frozenAt (i * 2)
        have f1 := HO.out.frozenAt (i * 2 + 1)
        have s1 := HO.out.stored (i * 2) (.int .i64 ((k : Int) + 2 * (i : Int)))
        have s2 := s1.1.stored (i * 2 + 1) (.int .i64 ((k : Int) + 2 * (i : Int) + 1))
        have hs := s2.1
        rw [cdv_mid hp] at hs
        have HS := Lib.hid hs
        have HG2 := Lib.hid (only_trans HG.out (only_trans s1.2 s2.2))
        clear s1 s2 hs hl HO HG
        go_wp2
        go_roundw
        case rel => exact ⟨i + 1, by go_num, by go_num, by omega, HS, HG2⟩
        case measure => simp [intOf]; omega
      · obtain rfl : i = xs.length := by omega
        go_wp2
        go_ret
        have h2 := HO.out
        simp only [halfIc, List.drop_length, List.append_nil] at h2
        exact ⟨rfl, h2, HG.out⟩

set_option maxHeartbeats 4000000 in
theorem heldIc_any (v : Value) (k n : Nat) (h1 : k ≤ 8388608) (hx : n ≤ 4194304) (w : World) (ha : RdIc w v (marksIc k n)) :
    Calls Try.prog 15 #[v, .int .i64 k] w fun e w' => e = .returned (.int .i64 ((k : Int) + 2 * (n : Int))) ∧ w = w' := by
  obtain ⟨A, ca, rfl⟩ := ha.form
  rw [marksIc_len]
  have HA : Hid (∀ i, i < n → ∃ a, A = some a ∧ w.cell? (a.add (i * 2)) = some (.int .i64 ((k : Int) + 2 * (i : Int))) ∧ w.cell? ⟨(a.add (i * 2)).block, (a.add (i * 2)).off + 1, none⟩ = some (.int .i64 ((k : Int) + 2 * (i : Int) + 1))) := Lib.hid fun i hi => by
    obtain ⟨a, h1, -, h3, h4⟩ := ha.item (show i < (marksIc k n).length by rw [marksIc_len]; exact hi)
    refine ⟨a, h1, ?_, ?_⟩
    · rw [h3, marksIc_get]
    · rw [h4, marksIc_get]
  clear ha
  go_enter Try.func15, Try.ntmps15
  go_wp2
  go_loop [1, 5] (fun vk vi => ∃ i : Nat, vi = .int .i64 i ∧ vk = .int .i64 ((k : Int) + 2 * (i : Int)) ∧ i ≤ n) (fun _ vi => n - (intOf vi).toNat)
  case atStart => exact ⟨0, rfl, by simp, by omega⟩
  case round =>
    obtain ⟨i, rfl, rfl, hi⟩ := hrel
    by_cases hp : i < n
    · have i2 : (i : Int) < (n : Int) := by omega
      obtain ⟨a, rfl, c0, c1⟩ := HA.out i hp
      obtain ⟨z, hz⟩ : ∃ z, (k : Int) + 2 * (i : Int) = z := ⟨_, rfl⟩
      have hz1 : 0 ≤ z := by omega
      have hz2 : z ≤ 20000000 := by omega
      rw [hz] at c0 c1 ⊢
      have q0 : (z != z) = false := by simp
      have q1 : (z + 1 != z + 1) = false := by simp
      have HZ := Lib.hid hz
      clear hz
      go_wp2
      go_round
      case rel => exact ⟨i + 1, by go_num, by rw [← HZ.out]; go_num, by omega⟩
      case measure => simp [intOf]; omega
    · obtain rfl : i = n := by omega
      go_wp2
      go_ret
      exact ⟨rfl, rfl⟩

set_option maxHeartbeats 1000000 in
theorem toins_any (x y : Int) (w : World) : Calls Try.prog 36 #[.agg #[.int .i64 x, .int .i64 y]] w fun e w' => e = .returned (.agg #[.int .i64 x, .int .i64 y]) ∧ Below w.heap.size w w' := by
  go_enter Try.func36, Try.ntmps36
  go_wp2
  exact bodyPost_ret (v := .agg #[.int .i64 x, .int .i64 y]) (by simp [results, Try.results36, go_sem]) rfl ⟨rfl, by go_grown⟩

def copiedIc (xs : List (Int × Int)) (i : Nat) : List (Int × Int) := xs.take i ++ List.replicate (xs.length - i) (0, 0)
theorem copiedIc_len (xs : List (Int × Int)) (i : Nat) (h : i ≤ xs.length) : (copiedIc xs i).length = xs.length := by simp [copiedIc]; omega
theorem cdv_rep (n : Nat) : cdv (List.replicate n (0, 0)) = (List.replicate n [Value.int .i64 0, Value.int .i64 0]).flatten := by
  induction n with
  | zero => rfl
  | succ n ih => simp only [List.replicate_succ, cdv, ih, List.flatten_cons, List.cons_append, List.nil_append]
theorem copiedIc_zero (xs : List (Int × Int)) : cdv (copiedIc xs 0) = (List.replicate xs.length [Value.int .i64 0, Value.int .i64 0]).flatten := by simp [copiedIc, cdv_rep]
theorem copiedIc_full (xs : List (Int × Int)) : copiedIc xs xs.length = xs := by simp [copiedIc]
theorem copiedIc_set {xs : List (Int × Int)} {i : Nat} (h : i < xs.length) : ((cdv (copiedIc xs i)).set (i * 2) (.int .i64 xs[i].1)).set (i * 2 + 1) (.int .i64 xs[i].2) = cdv (copiedIc xs (i + 1)) := by
  rw [cdv_set (xs := copiedIc xs i) (by rw [copiedIc_len xs i (by omega)]; exact h)]
  congr 1
  unfold copiedIc
  obtain ⟨m, hm⟩ : ∃ m, xs.length - i = m + 1 := ⟨xs.length - i - 1, by omega⟩
  rw [hm, show xs.length - (i + 1) = m by omega, List.replicate_succ, List.set_append_right _ _ (by simp; omega)]
  have : i - (xs.take i).length = 0 := by simp; omega
  rw [this, List.set_cons_zero, List.take_succ_eq_append_getElem h, List.append_assoc]
  rfl
theorem made_cdv (n : Nat) : (madeCells #[Value.int .i64 0, Value.int .i64 0] (n * 2)).toList = cdv (List.replicate n (0, 0)) := by
  refine List.ext_getElem (by simp [madeCells, cdv_len]) fun i h1 h2 => ?_
  have h3 : i < n * 2 := by simpa [madeCells] using h1
  obtain ⟨j, hj⟩ : ∃ j, i = j * 2 ∨ i = j * 2 + 1 := ⟨i / 2, by omega⟩
  rcases hj with rfl | rfl
  · have := cdv_get0 (xs := List.replicate n (0, 0)) (i := j) (by simp; omega)
    rw [List.getElem?_eq_getElem h2] at this
    rw [Option.some.inj this]
    simp [madeCells]
  · have := cdv_get1 (xs := List.replicate n (0, 0)) (i := j) (by simp; omega)
    rw [List.getElem?_eq_getElem h2] at this
    rw [Option.some.inj this]
    have e : (j * 2 + 1) % 2 = 1 := by omega
    simp [madeCells, e]
set_option maxHeartbeats 4000000 in
theorem toIc_any (v : Value) (xs : List (Int × Int)) (hx : xs.length ≤ 4194304) (W : World) (ha : RdIc W v xs) : Calls Try.prog 19 #[v] W (NewIc W xs) := by
  obtain ⟨i0, hi, hz0, hz1, hz2⟩ := info_parts infoIc
  obtain ⟨A, ca, rfl⟩ := ha.form
  have HA := Lib.hid (fun w (h : Below W.heap.size W w) => ha.below h)
  clear ha
  go_enter Try.func19, Try.ntmps19
  go_wp2_with (refine wpList_make_full _ rfl _ _ _ rfl W.heap.size 55 i0 (.agg #[.int .i64 0, .int .i64 0]) 2 Try.underlying24 hi hz0 hz1 .i64 .i64 _ _ xs.length rfl rfl rfl rfl (by rw [hz2]; omega) (by unfold maxLen; omega) (Nat.le_refl _) ?_; intro w1 hown hgr)
  have hb1 : Below W.heap.size W w1 := (Below.refl _ _).grown hgr (Nat.le_refl _) (fun k hk => by cases hk)
  have hown1 : w1.ownsRow W.heap.size 55 2 (.slice (some ⟨W.heap.size, 0, none⟩) xs.length xs.length) xs.length (cdv (copiedIc xs 0)) := by
    have e : (madeCells (Value.agg #[Value.int .i64 0, Value.int .i64 0]).cells (xs.length * 2)).toList = cdv (copiedIc xs 0) := by
      have ec : copiedIc xs 0 = List.replicate xs.length (0, 0) := by simp [copiedIc]
      rw [ec]
      exact made_cdv _
    rw [e] at hown
    exact hown
  have HB1 := Lib.hid hb1
  have HOWN1 := Lib.hid hown1
  clear hown hgr hb1 hown1
  go_loopw [4] (fun vi wr => ∃ i : Nat, vi = .int .i64 i ∧ i ≤ xs.length ∧ Hid (wr.ownsRow W.heap.size 55 2 (.slice (some ⟨W.heap.size, 0, none⟩) xs.length xs.length) xs.length (cdv (copiedIc xs i))) ∧ Hid (Below W.heap.size W wr)) (fun vi _ => xs.length - (intOf vi).toNat)
  case atStart => exact ⟨0, rfl, by omega, HOWN1, HB1⟩
  case round =>
    clear HOWN1 HB1
    obtain ⟨i, rfl, hi2, HO, HB⟩ := hrel
    by_cases hp : i < xs.length
    · obtain ⟨ga, rfl, -, c0, c1⟩ := (HA.out wr HB.out).item hp
      obtain ⟨x, hx'⟩ : ∃ x, xs[i] = x := ⟨_, rfl⟩
      obtain ⟨x1, x2⟩ := x
      have HX := Lib.hid hx'
      rw [hx'] at c0 c1
      have i2 : (i : Int) < (xs.length : Int) := by omega
      clear hx'
      go_wp2_with fail
      refine (toins_any x1 x2 _).mono ?_
      rintro e w2 ⟨rfl, hb2⟩
      have hl := copiedIc_len xs i (by omega)
      have HB2 := Lib.hid (HB.out.trans (hb2.mono HB.out.size))
      have HO2 := Lib.hid (HO.out.kept (only_of_below hb2 none) (by simp [Value.ownBlock]))
      obtain ⟨u0, d0⟩ : ∃ u, w2.cell? ⟨W.heap.size, i * 2, none⟩ = some u := ⟨_, (HO2.out.cellAt (i * 2) (by omega)).trans (cdv_get0 (by omega))⟩
      obtain ⟨u1, d1⟩ : ∃ u, w2.cell? ⟨W.heap.size, i * 2 + 1, none⟩ = some u := ⟨_, (HO2.out.cellAt (i * 2 + 1) (by omega)).trans (cdv_get1 (by omega))⟩
      have f0 := HO2.out.frozenAt (i * 2)
      have f1 := HO2.out.frozenAt (i * 2 + 1)
      have s1 := HO2.out.stored (i * 2) (.int .i64 x1)
      have s2 := s1.1.stored (i * 2 + 1) (.int .i64 x2)
      have hs := s2.1
      have hcs := copiedIc_set (xs := xs) hp
      rw [HX.out] at hcs
      rw [hcs] at hs
      have HS := Lib.hid hs
      have HG2 := Lib.hid (only_trans s1.2 s2.2)
      clear s1 s2 hs hl HO HB hb2 hcs HO2 c0 c1
      go_wp2_with fail
      go_roundw
      case rel => exact ⟨i + 1, by go_num, by omega, HS, Lib.hid (HB2.out.grown HG2.out HB2.out.size (fun k hk => by injection hk with hk; omega))⟩
      case measure => simp [intOf]; omega
    · obtain rfl : i = xs.length := by omega
      have h2 := HO.out
      rw [copiedIc_full] at h2
      have H2 := Lib.hid h2
      clear h2 HO
      go_wp2
      go_ret
      exact ⟨_, rfl, H2.out, HB.out⟩
end Go.Proofs.Ytofikgjoiidhmaa

namespace Go.Proofs.Ytofikgjoiidhmaa
open Go.RowKit Go

theorem row_sameM {w w' : World} {base size : Nat} {e : TypeId} {v : Value} {n : Nat} {xs : List Value} (h : w.ownsRow base e size v n xs) (hk : ∀ g, v.ownBlock = some g → w'.heap[g]? = w.heap[g]?) : w'.ownsRow base e size v n xs := by
  refine ⟨h.1, ?_⟩
  rcases h.2 with hn | ⟨g, cap, cur, rfl, hb, hgg, rest⟩
  · exact .inl hn
  · refine .inr ⟨g, cap, cur, rfl, hb, ?_, rest⟩
    rw [hk g (by simp [Value.ownBlock])]
    exact hgg
theorem own_formM {w : World} {base size : Nat} {e : TypeId} {v : Value} {n : Nat} {xs : List Value} (h : w.ownsRow base e size v n xs) : ∃ A cap, v = .slice A n cap := by
  rcases h.2 with ⟨rfl, h0⟩ | ⟨g, cap, cur, rfl, -⟩
  · exact ⟨none, 0, by rw [h0]⟩
  · exact ⟨_, _, rfl⟩
theorem own_posM {w : World} {base size : Nat} {e : TypeId} {v : Value} {n : Nat} {xs : List Value} (h : w.ownsRow base e size v n xs) (hn : 0 < n) : ∃ q cap, v = .slice (some ⟨q, 0, none⟩) n cap ∧ n ≤ cap ∧ q < w.heap.size ∧ base ≤ q := by
  rcases h.2 with ⟨rfl, h0⟩ | ⟨g, cap, cur, rfl, hb, hg, hc, -⟩
  · omega
  · exact ⟨g, cap, rfl, hc, (Array.getElem?_eq_some_iff.1 hg).1, hb⟩
theorem box_neM {W : World} {g base size : Nat} {t e : TypeId} {cs : Array Value} {v : Value} {n : Nat} {xs : List Value} (hk : Blk W g t cs) (ho : W.ownsRow base e size v n xs) (ht : t ≠ e) : v.ownBlock ≠ some g := by
  rcases ho.2 with ⟨rfl, -⟩ | ⟨q, cap, cur, rfl, -, hq, -⟩
  · simp [Value.ownBlock]
  · intro h
    have h : q = g := by simpa [Value.ownBlock] using h
    subst h
    unfold Blk at hk
    rw [hk] at hq
    injection hq with h1
    injection h1 with _ h2
    exact ht h2
theorem types_neM {w : World} {b1 b2 s1 s2 n1 n2 : Nat} {e1 e2 : TypeId} {u v : Value} {xs ys : List Value} (h1 : w.ownsRow b1 e1 s1 u n1 xs) (h2 : w.ownsRow b2 e2 s2 v n2 ys) (he : e1 ≠ e2) : ∀ g, u.ownBlock = some g → v.ownBlock ≠ some g := by
  intro g hg hv
  rcases h1.2 with ⟨rfl, -⟩ | ⟨q, cap, cur, rfl, -, hq, -⟩
  · simp [Value.ownBlock] at hg
  · have hg : some q = some g := hg
    injection hg with hg
    subst hg
    rcases h2.2 with ⟨rfl, -⟩ | ⟨r, cap2, cur2, rfl, -, hr, -⟩
    · simp [Value.ownBlock] at hv
    · have hv : some r = some q := hv
      injection hv with hv
      subst hv
      rw [hq] at hr
      injection hr with h1
      injection h1 with _ h2
      exact he h2
/-- The maker's box, its rows, and blocks that no one writes. -/
structure Mk4 (lo g : Nat) (w : World) (Fz : List (Nat × Obj)) (vl vs ve vc : Value) (l : List (Int × Int)) (st : List Int) (ec cc : List Value) : Prop where
  box : Blk w g 60 #[vl, vs, ve, vc]
  rl : w.ownsRow lo 55 2 vl l.length (cdv l)
  rs : w.ownsRow lo 3 1 vs st.length (st.map lv)
  re : w.ownsRow lo 1 1 ve ec.length ec
  rc : w.ownsRow lo 1 1 vc cc.length cc
  ap : ∀ k, ve.ownBlock = some k → vc.ownBlock ≠ some k
  fz : ∀ p ∈ Fz, w.heap[p.1]? = some p.2 ∧ lo ≤ p.1 ∧ p.1 ≠ g ∧ vl.ownBlock ≠ some p.1 ∧ vs.ownBlock ≠ some p.1 ∧ ve.ownBlock ≠ some p.1 ∧ vc.ownBlock ≠ some p.1
  low : lo ≤ g
section
variable {lo g : Nat} {w w2 : World} {Fz : List (Nat × Obj)} {vl vs ve vc : Value} {l : List (Int × Int)} {st : List Int} {ec cc : List Value}
theorem Mk4.below (h : Mk4 lo g w Fz vl vs ve vc l st ec cc) (hb : Below w.heap.size w w2) : Mk4 lo g w2 Fz vl vs ve vc l st ec cc := by
  have key : ∀ {base size n : Nat} {e : TypeId} {v : Value} {xs : List Value}, w.ownsRow base e size v n xs → w2.ownsRow base e size v n xs := fun ho => row_sameM ho (fun k hk => hb.block k (World.ownsRow.lt ho k hk).2)
  exact ⟨h.box.below hb h.box.lt, key h.rl, key h.rs, key h.re, key h.rc, h.ap, fun p hp => ⟨(hb.block p.1 (Array.getElem?_eq_some_iff.1 (h.fz p hp).1).1).trans (h.fz p hp).1, (h.fz p hp).2⟩, h.low⟩
/-- A new block is held. -/
theorem Mk4.hold (h : Mk4 lo g w Fz vl vs ve vc l st ec cc) (o : Obj) : Mk4 lo g (w.alloc o) ((w.heap.size, o) :: Fz) vl vs ve vc l st ec cc := by
  have h2 := h.below (Below.alloc (Below.refl w.heap.size w) (Nat.le_refl _) o)
  have hlt : ∀ {base size n : Nat} {e : TypeId} {v : Value} {xs : List Value}, w.ownsRow base e size v n xs → v.ownBlock ≠ some w.heap.size := fun ho hk => by have := (World.ownsRow.lt ho _ hk).2; omega
  refine { h2 with fz := fun p hp => ?_ }
  rcases List.mem_cons.1 hp with rfl | hp
  · have := h.box.lt
    have := h.low
    exact ⟨heap_alloc_new w o, by simp only; omega, by simp only; omega, hlt h.rl, hlt h.rs, hlt h.re, hlt h.rc⟩
  · exact h2.fz p hp
theorem Mk4.cell (h : Mk4 lo g w Fz vl vs ve vc l st ec cc) {b : Nat} {u : Value} {t : TypeId} (hb : (b, Obj.cells #[u] t) ∈ Fz) : w.cell? ⟨b, 0, none⟩ = some u := by
  have := (h.fz _ hb).1
  rw [cell_of_row w b 0 #[u] t (0, 0) this]
  rfl
theorem Mk4.cells2 (h : Mk4 lo g w Fz vl vs ve vc l st ec cc) {b : Nat} {u v : Value} {t : TypeId} (hb : (b, Obj.cells #[u, v] t) ∈ Fz) : w.cell? ⟨b, 0, none⟩ = some u ∧ w.cell? ⟨b, 1, none⟩ = some v := by
  have := (h.fz _ hb).1
  exact ⟨by rw [cell_of_row w b 0 #[u, v] t (0, 0) this]; rfl, by rw [cell_of_row w b 1 #[u, v] t (0, 0) this]; rfl⟩
theorem Mk4.weak {Gz : List (Nat × Obj)} (h : Mk4 lo g w Fz vl vs ve vc l st ec cc) (hs : ∀ p ∈ Gz, p ∈ Fz) : Mk4 lo g w Gz vl vs ve vc l st ec cc := { h with fz := fun p hp => h.fz p (hs p hp) }
theorem appalt_where {w w' : World} {n m : Nat} {d d' : Value} (h : AppAlt w w' d d' n m) : ∀ k, d'.ownBlock = some k → d.ownBlock = some k ∨ w.heap.size ≤ k := by
  intro k hk
  rcases h with ⟨g, cap, rfl, -, rfl, -⟩ | ⟨-, h⟩
  · exact .inl hk
  · exact .inr (h k hk)
/-- Row L has grown, and the box says so. -/
theorem Mk4.putL (h : Mk4 lo g w Fz vl vs ve vc l st ec cc) (l2 : List (Int × Int)) {v' : Value} {n m : Nat} (ho : w2.ownsRow lo 55 2 v' l2.length (cdv l2)) (ha : AppAlt w w2 vl v' n m) : Mk4 lo g (w2.setCell ⟨g, 0, none⟩ v') Fz v' vs ve vc l2 st ec cc ∧ Below lo w (w2.setCell ⟨g, 0, none⟩ v') := by
  have hgr := ha.grown
  have hne : vl.ownBlock ≠ some g := box_neM h.box h.rl (by decide)
  have hB2 : Blk w2 g 60 #[vl, vs, ve, vc] := h.box.grown hgr (fun e => hne e.symm)
  have key : ∀ {base size k : Nat} {e : TypeId} {u : Value} {xs : List Value}, w.ownsRow base e size u k xs → (∀ k, u.ownBlock = some k → vl.ownBlock ≠ some k) → 60 ≠ e → (w2.setCell ⟨g, 0, none⟩ v').ownsRow base e size u k xs := fun hr hn hm => row_sameM hr (fun k hk => (Below.heap_setCell w2 _ _ k (fun e => by
    have e : k = g := e
    subst e
    exact box_neM h.box hr hm hk)).trans (hgr.block k (World.ownsRow.lt hr k hk).2 (fun e => hn k hk e.symm)))
  have hb0 : Below lo w w2 := ⟨hgr.os, hgr.tape, hgr.output, hgr.size, fun k hk => hgr.block k (by have := h.box.lt; have := h.low; omega) (fun e => by have := (World.ownsRow.lt h.rl k e.symm).1; omega)⟩
  have hbox := hB2.put 0 v'
  refine ⟨⟨by simpa using hbox, row_sameM ho (fun k hk => Below.heap_setCell w2 _ _ k (fun e => box_neM hB2 ho (by decide) (by rw [hk, e]))), key h.rs (types_neM h.rs h.rl (by decide)) (by decide), key h.re (types_neM h.re h.rl (by decide)) (by decide), key h.rc (types_neM h.rc h.rl (by decide)) (by decide), h.ap, fun p hp => ?_, h.low⟩, hb0.setCell (p := ⟨g, 0, none⟩) h.low _⟩
  have hp0 := h.fz p hp
  have hlt := (Array.getElem?_eq_some_iff.1 hp0.1).1
  have hnew : v'.ownBlock ≠ some p.1 := fun e => by
    rcases appalt_where ha p.1 e with h1 | h1
    · exact (h.fz p hp).2.2.2.1 h1
    · omega
  exact ⟨(Below.heap_setCell w2 _ _ p.1 (fun e => hp0.2.2.1 e)).trans ((hgr.block p.1 hlt (fun e => (h.fz p hp).2.2.2.1 e.symm)).trans hp0.1), hp0.2.1, hp0.2.2.1, hnew, (h.fz p hp).2.2.2.2.1, (h.fz p hp).2.2.2.2.2.1, (h.fz p hp).2.2.2.2.2.2⟩
/-- Row S has grown, and the box says so. -/
theorem Mk4.putS (h : Mk4 lo g w Fz vl vs ve vc l st ec cc) (s2 : List Int) {v' : Value} {n m : Nat} (ho : w2.ownsRow lo 3 1 v' s2.length (s2.map lv)) (ha : AppAlt w w2 vs v' n m) : Mk4 lo g (w2.setCell ⟨g, 1, none⟩ v') Fz vl v' ve vc l s2 ec cc ∧ Below lo w (w2.setCell ⟨g, 1, none⟩ v') := by
  have hgr := ha.grown
  have hne : vs.ownBlock ≠ some g := box_neM h.box h.rs (by decide)
  have hB2 : Blk w2 g 60 #[vl, vs, ve, vc] := h.box.grown hgr (fun e => hne e.symm)
  have key : ∀ {base size k : Nat} {e : TypeId} {u : Value} {xs : List Value}, w.ownsRow base e size u k xs → (∀ k, u.ownBlock = some k → vs.ownBlock ≠ some k) → 60 ≠ e → (w2.setCell ⟨g, 1, none⟩ v').ownsRow base e size u k xs := fun hr hn hm => row_sameM hr (fun k hk => (Below.heap_setCell w2 _ _ k (fun e => by
    have e : k = g := e
    subst e
    exact box_neM h.box hr hm hk)).trans (hgr.block k (World.ownsRow.lt hr k hk).2 (fun e => hn k hk e.symm)))
  have hb0 : Below lo w w2 := ⟨hgr.os, hgr.tape, hgr.output, hgr.size, fun k hk => hgr.block k (by have := h.box.lt; have := h.low; omega) (fun e => by have := (World.ownsRow.lt h.rs k e.symm).1; omega)⟩
  have hbox := hB2.put 1 v'
  refine ⟨⟨by simpa using hbox, key h.rl (types_neM h.rl h.rs (by decide)) (by decide), row_sameM ho (fun k hk => Below.heap_setCell w2 _ _ k (fun e => box_neM hB2 ho (by decide) (by rw [hk, e]))), key h.re (types_neM h.re h.rs (by decide)) (by decide), key h.rc (types_neM h.rc h.rs (by decide)) (by decide), h.ap, fun p hp => ?_, h.low⟩, hb0.setCell (p := ⟨g, 1, none⟩) h.low _⟩
  have hp0 := h.fz p hp
  have hlt := (Array.getElem?_eq_some_iff.1 hp0.1).1
  have hnew : v'.ownBlock ≠ some p.1 := fun e => by
    rcases appalt_where ha p.1 e with h1 | h1
    · exact (h.fz p hp).2.2.2.2.1 h1
    · omega
  exact ⟨(Below.heap_setCell w2 _ _ p.1 (fun e => hp0.2.2.1 e)).trans ((hgr.block p.1 hlt (fun e => (h.fz p hp).2.2.2.2.1 e.symm)).trans hp0.1), hp0.2.1, hp0.2.2.1, (h.fz p hp).2.2.2.1, hnew, (h.fz p hp).2.2.2.2.2.1, (h.fz p hp).2.2.2.2.2.2⟩
/-- Row E has grown, and the box says so. -/
theorem Mk4.putE (h : Mk4 lo g w Fz vl vs ve vc l st ec cc) (e2 : List Value) {v' : Value} {n m : Nat} (ho : w2.ownsRow lo 1 1 v' e2.length e2) (ha : AppAlt w w2 ve v' n m) : Mk4 lo g (w2.setCell ⟨g, 2, none⟩ v') Fz vl vs v' vc l st e2 cc ∧ Below lo w (w2.setCell ⟨g, 2, none⟩ v') := by
  have hgr := ha.grown
  have hne : ve.ownBlock ≠ some g := box_neM h.box h.re (by decide)
  have hB2 : Blk w2 g 60 #[vl, vs, ve, vc] := h.box.grown hgr (fun e => hne e.symm)
  have key : ∀ {base size k : Nat} {e : TypeId} {u : Value} {xs : List Value}, w.ownsRow base e size u k xs → (∀ k, u.ownBlock = some k → ve.ownBlock ≠ some k) → 60 ≠ e → (w2.setCell ⟨g, 2, none⟩ v').ownsRow base e size u k xs := fun hr hn hm => row_sameM hr (fun k hk => (Below.heap_setCell w2 _ _ k (fun e => by
    have e : k = g := e
    subst e
    exact box_neM h.box hr hm hk)).trans (hgr.block k (World.ownsRow.lt hr k hk).2 (fun e => hn k hk e.symm)))
  have hb0 : Below lo w w2 := ⟨hgr.os, hgr.tape, hgr.output, hgr.size, fun k hk => hgr.block k (by have := h.box.lt; have := h.low; omega) (fun e => by have := (World.ownsRow.lt h.re k e.symm).1; omega)⟩
  have hbox := hB2.put 2 v'
  refine ⟨⟨by simpa using hbox, key h.rl (types_neM h.rl h.re (by decide)) (by decide), key h.rs (types_neM h.rs h.re (by decide)) (by decide), row_sameM ho (fun k hk => Below.heap_setCell w2 _ _ k (fun e => box_neM hB2 ho (by decide) (by rw [hk, e]))), key h.rc ((fun k hk hv => h.ap k hv hk)) (by decide), fun k hk hv => by
    rcases appalt_where ha k hk with h1 | h1
    · exact h.ap k h1 hv
    · have := (World.ownsRow.lt h.rc k hv).2; omega, fun p hp => ?_, h.low⟩, hb0.setCell (p := ⟨g, 2, none⟩) h.low _⟩
  have hp0 := h.fz p hp
  have hlt := (Array.getElem?_eq_some_iff.1 hp0.1).1
  have hnew : v'.ownBlock ≠ some p.1 := fun e => by
    rcases appalt_where ha p.1 e with h1 | h1
    · exact (h.fz p hp).2.2.2.2.2.1 h1
    · omega
  exact ⟨(Below.heap_setCell w2 _ _ p.1 (fun e => hp0.2.2.1 e)).trans ((hgr.block p.1 hlt (fun e => (h.fz p hp).2.2.2.2.2.1 e.symm)).trans hp0.1), hp0.2.1, hp0.2.2.1, (h.fz p hp).2.2.2.1, (h.fz p hp).2.2.2.2.1, hnew, (h.fz p hp).2.2.2.2.2.2⟩
/-- Row C has grown, and the box says so. -/
theorem Mk4.putC (h : Mk4 lo g w Fz vl vs ve vc l st ec cc) (c2 : List Value) {v' : Value} {n m : Nat} (ho : w2.ownsRow lo 1 1 v' c2.length c2) (ha : AppAlt w w2 vc v' n m) : Mk4 lo g (w2.setCell ⟨g, 3, none⟩ v') Fz vl vs ve v' l st ec c2 ∧ Below lo w (w2.setCell ⟨g, 3, none⟩ v') := by
  have hgr := ha.grown
  have hne : vc.ownBlock ≠ some g := box_neM h.box h.rc (by decide)
  have hB2 : Blk w2 g 60 #[vl, vs, ve, vc] := h.box.grown hgr (fun e => hne e.symm)
  have key : ∀ {base size k : Nat} {e : TypeId} {u : Value} {xs : List Value}, w.ownsRow base e size u k xs → (∀ k, u.ownBlock = some k → vc.ownBlock ≠ some k) → 60 ≠ e → (w2.setCell ⟨g, 3, none⟩ v').ownsRow base e size u k xs := fun hr hn hm => row_sameM hr (fun k hk => (Below.heap_setCell w2 _ _ k (fun e => by
    have e : k = g := e
    subst e
    exact box_neM h.box hr hm hk)).trans (hgr.block k (World.ownsRow.lt hr k hk).2 (fun e => hn k hk e.symm)))
  have hb0 : Below lo w w2 := ⟨hgr.os, hgr.tape, hgr.output, hgr.size, fun k hk => hgr.block k (by have := h.box.lt; have := h.low; omega) (fun e => by have := (World.ownsRow.lt h.rc k e.symm).1; omega)⟩
  have hbox := hB2.put 3 v'
  refine ⟨⟨by simpa using hbox, key h.rl (types_neM h.rl h.rc (by decide)) (by decide), key h.rs (types_neM h.rs h.rc (by decide)) (by decide), key h.re (h.ap) (by decide), row_sameM ho (fun k hk => Below.heap_setCell w2 _ _ k (fun e => box_neM hB2 ho (by decide) (by rw [hk, e]))), fun k hk hv => by
    rcases appalt_where ha k hv with h1 | h1
    · exact h.ap k hk h1
    · have := (World.ownsRow.lt h.re k hk).2; omega, fun p hp => ?_, h.low⟩, hb0.setCell (p := ⟨g, 3, none⟩) h.low _⟩
  have hp0 := h.fz p hp
  have hlt := (Array.getElem?_eq_some_iff.1 hp0.1).1
  have hnew : v'.ownBlock ≠ some p.1 := fun e => by
    rcases appalt_where ha p.1 e with h1 | h1
    · exact (h.fz p hp).2.2.2.2.2.2 h1
    · omega
  exact ⟨(Below.heap_setCell w2 _ _ p.1 (fun e => hp0.2.2.1 e)).trans ((hgr.block p.1 hlt (fun e => (h.fz p hp).2.2.2.2.2.2 e.symm)).trans hp0.1), hp0.2.1, hp0.2.2.1, (h.fz p hp).2.2.2.1, (h.fz p hp).2.2.2.2.1, (h.fz p hp).2.2.2.2.2.1, hnew⟩
end
end Go.Proofs.Ytofikgjoiidhmaa
