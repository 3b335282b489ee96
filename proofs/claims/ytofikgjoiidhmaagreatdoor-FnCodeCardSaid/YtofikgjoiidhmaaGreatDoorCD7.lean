/-
  Code as plain data: what a body is made into, with the places of definitions still open; out of ops, and out of trees.
  Lists of steps (a kind and a number each): a copy of one, whether two are alike, the marks that are laid into one, whether they lie there.
  Lists of steps: whether two are alike, a copy of one, the marks that are laid into one, whether they lie there.
  The maker of code in memory: its box, its four rows, and the boxes that closures hold.
  (*impl.maker).step, and what a stack of functions does.
  The maker's functions: what an op adds, what hangs on it, and what an end fills.
-/
import Derived.Test.YtofikgjoiidhmaaGreatDoorCD2
import Derived.Test.YtofikgjoiidhmaaGreatDoorCD3
import Derived.Handy
import Derived.Deep.RegionHeld3
import Derived.Test.YtofikgjoiidhmaaGreatDoorCD1
import Derived.IntWalk
import Derived.RegionTactic
import Derived.ChangeAlike
import Derived.Deep.RegionLaw
namespace Go.Proofs.YtofikgjoiidhmaaGreatDoor
open Go.RowKit Go

/-- What hangs on the end of something: a place to be filled, or a place to go back to. -/
inductive Cl | past (at_ : Nat) | again (to : Nat)
/-- A step whose number may be the place of a definition. -/
abbrev Cd := Int × (Int ⊕ Nat)
def pendC (c : Cd) : Int × Int := (c.1, match c.2 with | .inl n => n | .inr _ => 0)
def resC (st : Nat → Int) (c : Cd) : Int × Int := (c.1, match c.2 with | .inl n => n | .inr k => st k)
/-- The places that are still open, from place a on. -/
def openC : Nat → List Cd → List (Nat × Nat)
  | _, [] => []
  | a, c :: r => match c.2 with | .inl _ => openC (a + 1) r | .inr k => (a, k) :: openC (a + 1) r
theorem openC_app (a : Nat) (xs ys : List Cd) : openC a (xs ++ ys) = openC a xs ++ openC (a + xs.length) ys := by
  induction xs generalizing a with
  | nil => simp [openC]
  | cons c r ih =>
    obtain ⟨o, n⟩ := c
    cases n with
    | inl n => simp only [List.cons_append, openC, ih, List.length_cons]; rw [show a + 1 + r.length = a + (r.length + 1) by omega]
    | inr k => simp only [List.cons_append, openC, ih, List.length_cons]; rw [show a + 1 + r.length = a + (r.length + 1) by omega]
theorem openC_lt {a : Nat} {xs : List Cd} {p : Nat × Nat} (h : p ∈ openC a xs) : a ≤ p.1 ∧ p.1 < a + xs.length := by
  induction xs generalizing a with
  | nil => simp [openC] at h
  | cons c r ih =>
    obtain ⟨o, n⟩ := c
    cases n with
    | inl n => have := ih (a := a + 1) h; simp only [List.length_cons]; omega
    | inr k =>
      simp only [openC, List.mem_cons] at h
      rcases h with rfl | h
      · simp only [List.length_cons]; omega
      · have := ih (a := a + 1) h; simp only [List.length_cons]; omega
def fill1 (st : Nat → Int) (l : List (Int × Int)) (p : Nat × Nat) : List (Int × Int) := l.set p.1 ((l[p.1]?.getD (0, 0)).1, st p.2)
theorem fill_open (st : Nat → Int) : ∀ (xs : List Cd) (pre : List (Int × Int)), (openC pre.length xs).foldl (fill1 st) (pre ++ xs.map pendC) = pre ++ xs.map (resC st) := by
  intro xs
  induction xs with
  | nil => intro pre; simp [openC]
  | cons c r ih =>
    intro pre
    obtain ⟨o, n⟩ := c
    cases n with
    | inl n =>
      have := ih (pre ++ [(o, n)])
      simp only [List.length_append, List.length_singleton, List.append_assoc, List.singleton_append] at this
      simpa only [openC, List.map_cons, pendC, resC] using this
    | inr k =>
      have := ih (pre ++ [(o, st k)])
      simp only [List.length_append, List.length_singleton, List.append_assoc, List.singleton_append] at this
      simp only [openC, List.map_cons, List.foldl_cons]
      have e : fill1 st (pre ++ pendC (o, .inr k) :: r.map pendC) (pre.length, k) = pre ++ (o, st k) :: r.map pendC := by
        simp [fill1, pendC]
      rw [e]
      simpa only [resC] using this
theorem fill1_len (st : Nat → Int) (l : List (Int × Int)) (p : Nat × Nat) : (fill1 st l p).length = l.length := by simp [fill1]
theorem fill_len (st : Nat → Int) (ps : List (Nat × Nat)) (l : List (Int × Int)) : (ps.foldl (fill1 st) l).length = l.length := by
  induction ps generalizing l with
  | nil => rfl
  | cons p r ih => rw [List.foldl_cons, ih, fill1_len]
/-- What is made so far, and what ends wait. -/
structure Mk where
  L : List Cd
  E : List Cl
/-- An op by itself; nothing where it ends what isn't begun. -/
def opM (m : Mk) (o : Int × Int) : Option Mk :=
  if o.1 = 0 then some ⟨m.L ++ [(0, .inl o.2)], m.E⟩
  else if o.1 = 1 then some ⟨m.L ++ [(1, .inl o.2)], m.E⟩
  else if o.1 = 2 then some ⟨m.L ++ [(2, .inr o.2.toNat)], m.E⟩
  else if o.1 = 3 then some ⟨m.L ++ [(4, .inl 0)], m.E ++ [.past m.L.length]⟩
  else if o.1 = 4 then some ⟨m.L ++ [(5, .inl 0)], m.E ++ [.past m.L.length]⟩
  else if o.1 = 6 then some ⟨m.L ++ [(6, .inl 0)], m.E ++ [.again (m.L.length + 1)]⟩
  else if o.1 = 5 ∨ o.1 = 7 then
    match m.E.getLast? with
    | none => none
    | some (.past a) => some ⟨m.L.set a ((m.L[a]?.getD (0, .inl 0)).1, .inl m.L.length), m.E.dropLast⟩
    | some (.again a) => some ⟨m.L ++ [(7, .inl a)], m.E.dropLast⟩
  else if o.1 = 8 then some ⟨m.L ++ [(8, .inl 0)], m.E⟩
  else some m
theorem opM0 (m : Mk) (n : Int) : opM m (0, n) = some ⟨m.L ++ [(0, .inl n)], m.E⟩ := rfl
theorem opM1 (m : Mk) (n : Int) : opM m (1, n) = some ⟨m.L ++ [(1, .inl n)], m.E⟩ := rfl
theorem opM2 (m : Mk) (n : Int) : opM m (2, n) = some ⟨m.L ++ [(2, .inr n.toNat)], m.E⟩ := rfl
theorem opM3 (m : Mk) (n : Int) : opM m (3, n) = some ⟨m.L ++ [(4, .inl 0)], m.E ++ [.past m.L.length]⟩ := rfl
theorem opM4 (m : Mk) (n : Int) : opM m (4, n) = some ⟨m.L ++ [(5, .inl 0)], m.E ++ [.past m.L.length]⟩ := rfl
theorem opM6 (m : Mk) (n : Int) : opM m (6, n) = some ⟨m.L ++ [(6, .inl 0)], m.E ++ [.again (m.L.length + 1)]⟩ := rfl
theorem opM8 (m : Mk) (n : Int) : opM m (8, n) = some ⟨m.L ++ [(8, .inl 0)], m.E⟩ := rfl
theorem opM5 (L : List Cd) (E : List Cl) (k n : Int) (a : Nat) (h : k = 5 ∨ k = 7) : opM ⟨L, E ++ [.past a]⟩ (k, n) = some ⟨L.set a ((L[a]?.getD (0, .inl 0)).1, .inl L.length), E⟩ := by
  rcases h with rfl | rfl <;> simp [opM]
theorem opM7 (L : List Cd) (E : List Cl) (k n : Int) (a : Nat) (h : k = 5 ∨ k = 7) : opM ⟨L, E ++ [.again a]⟩ (k, n) = some ⟨L ++ [(7, .inl a)], E⟩ := by
  rcases h with rfl | rfl <;> simp [opM]
/-- Whether ops begin with a call and an exit behind it. -/
def tailB : List (Int × Int) → Bool
  | o :: p :: _ => decide (o.1 = 2) && decide (p.1 = 8)
  | _ => false
def bodyM (tail : Bool) (xs : List (Int × Int)) (m : Mk) : Option Mk :=
  match xs with
  | [] => some m
  | o :: r =>
    if tail && tailB (o :: r) then bodyM tail (r.drop 1) ⟨m.L ++ [(3, .inr o.2.toNat)], m.E⟩
    else match opM m o with
      | none => none
      | some m2 => bodyM tail r m2
termination_by xs.length
decreasing_by all_goals (simp; try omega)
theorem bodyM_nil (tail : Bool) (m : Mk) : bodyM tail [] m = some m := by rw [bodyM]
theorem bodyM_tail {tail : Bool} {o p : Int × Int} {r : List (Int × Int)} {m : Mk} (h : (tail && tailB (o :: p :: r)) = true) : bodyM tail (o :: p :: r) m = bodyM tail r ⟨m.L ++ [(3, .inr o.2.toNat)], m.E⟩ := by
  rw [bodyM, if_pos h]
  rfl
theorem bodyM_op {tail : Bool} {o : Int × Int} {r : List (Int × Int)} {m : Mk} (h : (tail && tailB (o :: r)) = false) : bodyM tail (o :: r) m = match opM m o with | none => none | some m2 => bodyM tail r m2 := by
  rw [bodyM, if_neg (by rw [h]; decide)]
def exitB : List Tr → Bool
  | t :: _ => decide (t.k = 8)
  | [] => false
mutual
/-- How many steps a tree makes. -/
def wideT (tail pc : Bool) : Tr → Nat
  | .mk k _ c => if k = 8 then (if tail && pc then 0 else 1) else 1 + wideL tail false c + (if k = 6 then 1 else 0)
def wideL (tail pc : Bool) : List Tr → Nat
  | [] => 0
  | t :: r => wideT tail pc t + wideL tail (decide (t.k = 2)) r
end
mutual
/-- The steps of a tree at a place. -/
def codeT (tail pc nx : Bool) (a : Nat) : Tr → List Cd
  | .mk k n c =>
    if k = 0 then [(0, .inl n)]
    else if k = 1 then [(1, .inl n)]
    else if k = 2 then [(if tail && nx then 3 else 2, .inr n.toNat)]
    else if k = 6 then (6, .inl 0) :: (codeL tail false (a + 1) c ++ [(7, .inl ((a + 1 : Nat) : Int))])
    else if k = 8 then (if tail && pc then [] else [(8, .inl 0)])
    else (if k = 4 then 5 else 4, .inl ((a + 1 + wideL tail false c : Nat) : Int)) :: codeL tail false (a + 1) c
def codeL (tail pc : Bool) (a : Nat) : List Tr → List Cd
  | [] => []
  | t :: r => codeT tail pc (exitB r) a t ++ codeL tail (decide (t.k = 2)) (a + wideT tail pc t) r
end
mutual
/-- Trees whose leaves have no kids. -/
def Tr.lf : Tr → Bool | .mk k _ c => if k = 3 ∨ k = 4 ∨ k = 6 then lfL c else decide (k = 0 ∨ k = 1 ∨ k = 2 ∨ k = 8) && c.isEmpty
def lfL : List Tr → Bool | [] => true | t :: r => t.lf && lfL r
end
mutual
theorem codeT_len : ∀ (t : Tr), t.lf = true → ∀ (tail pc nx : Bool) (a : Nat), (codeT tail pc nx a t).length = wideT tail pc t
  | .mk k n c, h, tail, pc, nx, a => by
    rw [Tr.lf] at h
    by_cases h3 : k = 3 ∨ k = 4 ∨ k = 6
    · rw [if_pos h3] at h
      have := codeL_len c h tail false (a + 1)
      rcases h3 with rfl | rfl | rfl
      · simp [codeT, wideT, this]; omega
      · simp [codeT, wideT, this]; omega
      · simp [codeT, wideT, this]; omega
    · rw [if_neg h3, Bool.and_eq_true, decide_eq_true_eq, List.isEmpty_iff] at h
      obtain ⟨hk, rfl⟩ := h
      rcases hk with rfl | rfl | rfl | rfl
      · simp [codeT, wideT, wideL]
      · simp [codeT, wideT, wideL]
      · simp [codeT, wideT, wideL]
      · cases tail <;> cases pc <;> simp [codeT, wideT]
theorem codeL_len : ∀ (xs : List Tr), lfL xs = true → ∀ (tail pc : Bool) (a : Nat), (codeL tail pc a xs).length = wideL tail pc xs
  | [], _, tail, pc, a => by simp [codeL, wideL]
  | t :: r, h, tail, pc, a => by
    rw [lfL, Bool.and_eq_true] at h
    rw [codeL, wideL, List.length_append, codeT_len t h.1, codeL_len r h.2]
end
theorem Grows.lf {xs ys : List (Int × Int)} {ts : List Tr} (h : Grows xs ts ys) (ha : xs.all okOp = true) : lfL ts = true ∧ ys.all okOp = true := by
  induction h with
  | stop xs h => exact ⟨rfl, ha⟩
  | leaf o r ys ts h g ih =>
    simp only [List.all_cons, Bool.and_eq_true] at ha
    have := ih ha.2
    refine ⟨?_, this.2⟩
    have hk : o.1 = 0 ∨ o.1 = 1 ∨ o.1 = 2 ∨ o.1 = 8 := by
      have h1 := ha.1
      unfold okOp at h1
      by_cases h0 : o.1 = 0
      · exact .inl h0
      · by_cases h2 : o.1 = 1
        · exact .inr (.inl h2)
        · by_cases h4 : o.1 = 2
          · exact .inr (.inr (.inl h4))
          · rw [if_neg h0, if_neg h2, if_neg h4, decide_eq_true_eq] at h1
            omega
    rw [lfL, Tr.lf, if_neg (by omega), this.1]
    simp [hk]
  | nest o r r2 ys kids ts h gk g ih1 ih2 =>
    simp only [List.all_cons, Bool.and_eq_true] at ha
    have h1 := ih1 ha.2
    simp only [List.all_cons, Bool.and_eq_true] at h1
    have h2 := ih2 h1.2.2
    exact ⟨by rw [lfL, Tr.lf, if_pos h, h1.1, h2.1]; rfl, h2.2⟩
theorem codeT_pc {tail pc nx : Bool} {a : Nat} {t : Tr} (h : t.k ≠ 8 ∨ tail = false) : codeT tail pc nx a t = codeT tail false nx a t ∧ wideT tail pc t = wideT tail false t := by
  cases t with
  | mk k n c =>
    simp only [Tr.k] at h
    rw [codeT, codeT, wideT, wideT]
    rcases h with h | rfl
    · rw [if_neg h, if_neg h, if_neg h, if_neg h]
      exact ⟨rfl, rfl⟩
    · simp
theorem codeL_pc {tail pc : Bool} {a : Nat} {ts : List Tr} (h : exitB ts = false ∨ tail = false) : codeL tail pc a ts = codeL tail false a ts ∧ wideL tail pc ts = wideL tail false ts := by
  cases ts with
  | nil => simp [codeL, wideL]
  | cons t r =>
    have := codeT_pc (tail := tail) (pc := pc) (nx := exitB r) (a := a) (t := t) (by
      rcases h with h | h
      · left; simpa [exitB] using h
      · right; exact h)
    rw [codeL, codeL, wideL, wideL, this.1, this.2]
    exact ⟨rfl, rfl⟩
theorem Grows.head {o : Int × Int} {r ys : List (Int × Int)} {ts : List Tr} (h : Grows (o :: r) ts ys) (h5 : o.1 ≠ 5 ∧ o.1 ≠ 7) : exitB ts = decide (o.1 = 8) := by
  generalize hx : o :: r = xs at h
  cases h with
  | stop xs h => subst hx; have := h o r rfl; omega
  | leaf o2 r2 ys ts h g => injection hx with h1 h2; subst h1; rfl
  | nest o2 r2 r3 ys kids ts h gk g => injection hx with h1 h2; subst h1; rfl
theorem Grows.head_end {o : Int × Int} {r ys : List (Int × Int)} {ts : List Tr} (h : Grows (o :: r) ts ys) (h5 : o.1 = 5 ∨ o.1 = 7) : ts = [] := by
  generalize hx : o :: r = xs at h
  cases h with
  | stop xs h => rfl
  | leaf o2 r2 ys ts h g => injection hx with h1 h2; subst h1; omega
  | nest o2 r2 r3 ys kids ts h gk g => injection hx with h1 h2; subst h1; omega
theorem Grows.head_nil {ys : List (Int × Int)} {ts : List Tr} (h : Grows [] ts ys) : ts = [] := by
  cases h; rfl
theorem tailB_exit {o : Int × Int} {r ys : List (Int × Int)} {ts : List Tr} (h : Grows r ts ys) : tailB (o :: r) = (decide (o.1 = 2) && exitB ts) := by
  cases r with
  | nil => rw [h.head_nil]; simp [tailB, exitB]
  | cons p q =>
    by_cases h5 : p.1 = 5 ∨ p.1 = 7
    · rw [h.head_end h5]
      simp [tailB, exitB]
      intro _
      omega
    · rw [h.head (by omega)]
      rfl
theorem set_mid {α : Type} (xs : List α) (y z : α) (ys : List α) : (xs ++ y :: ys).set xs.length z = xs ++ z :: ys := by simp
theorem body_grows (tail : Bool) {xs ys : List (Int × Int)} {ts : List Tr} (h : Grows xs ts ys) (ha : xs.all okOp = true) : (∀ m : Mk, bodyM tail xs m = bodyM tail ys ⟨m.L ++ codeL tail false m.L.length ts, m.E⟩) ∧
    (∀ e r, xs = e :: r → e.1 = 8 → tail = true → ∀ m : Mk, bodyM tail r m = bodyM tail ys ⟨m.L ++ codeL tail true m.L.length ts, m.E⟩) := by
  induction h with
  | stop xs h =>
    refine ⟨fun m => by simp [codeL], fun e r hx he ht m => ?_⟩
    have := h e r hx
    omega
  | leaf o r ys ts h g ih =>
    simp only [List.all_cons, Bool.and_eq_true] at ha
    obtain ⟨ih1, ih2⟩ := ih ha.2
    have ht := tailB_exit (o := o) g
    have hk : o.1 = 0 ∨ o.1 = 1 ∨ o.1 = 2 ∨ o.1 = 8 := by
      have h1 := ha.1
      unfold okOp at h1
      by_cases h0 : o.1 = 0
      · exact .inl h0
      · by_cases h2 : o.1 = 1
        · exact .inr (.inl h2)
        · by_cases h4 : o.1 = 2
          · exact .inr (.inr (.inl h4))
          · rw [if_neg h0, if_neg h2, if_neg h4, decide_eq_true_eq] at h1
            omega
    refine ⟨fun m => ?_, fun e r2 hx he htl m => ?_⟩
    · rw [codeL]
      obtain ⟨k, n⟩ := o
      simp only at hk ht
      rcases hk with rfl | rfl | rfl | rfl
      · rw [bodyM_op (by rw [ht]; simp)]
        simp only [opM0]
        rw [ih1]
        simp [codeT, wideT, wideL, Tr.k]
      · rw [bodyM_op (by rw [ht]; simp)]
        simp only [opM1]
        rw [ih1]
        simp [codeT, wideT, wideL, Tr.k]
      · cases htt : (tail && exitB ts) with
        | true =>
          simp only [Bool.and_eq_true] at htt
          obtain ⟨rfl, hx⟩ := htt
          obtain ⟨p, q, rfl⟩ : ∃ p q, r = p :: q := by
            cases r with
            | nil => rw [g.head_nil] at hx; simp [exitB] at hx
            | cons p q => exact ⟨p, q, rfl⟩
          have hp : p.1 = 8 := by
            by_cases h5 : p.1 = 5 ∨ p.1 = 7
            · rw [g.head_end h5] at hx; simp [exitB] at hx
            · rw [g.head (by omega)] at hx; simpa using hx
          rw [bodyM_tail (by rw [ht, hx]; rfl), ih2 p q rfl hp rfl]
          simp [codeT, wideT, wideL, Tr.k, hx]
        | false =>
          rw [bodyM_op (by rw [ht]; simpa using htt)]
          simp only [opM2]
          rw [ih1]
          have hp := codeL_pc (tail := tail) (pc := true) (a := m.L.length + 1) (ts := ts) (by
            cases tail
            · right; rfl
            · left; simpa using htt)
          have hq : (if (tail && exitB ts) = true then (3 : Int) else 2) = 2 := by rw [htt]; rfl
          simp only [Bool.and_eq_true] at hq
          simp [codeT, wideT, wideL, Tr.k, hp.1, hq]
      · rw [bodyM_op (by rw [ht]; simp)]
        simp only [opM8]
        rw [ih1]
        simp [codeT, wideT, Tr.k]
    · injection hx with hx1 hx2
      subst hx1 hx2 htl
      rw [ih1, codeL]
      obtain ⟨k, n⟩ := o
      simp only at he
      subst he
      simp [codeT, wideT, Tr.k]
  | nest o r r2 ys kids ts h gk g ih1 ih2 =>
    simp only [List.all_cons, Bool.and_eq_true] at ha
    have hl := gk.lf ha.2
    have ha2 := hl.2
    simp only [List.all_cons, Bool.and_eq_true] at ha2
    obtain ⟨j1, -⟩ := ih1 ha.2
    obtain ⟨j2, -⟩ := ih2 ha2.2
    refine ⟨fun m => ?_, fun e r3 hx he htl m => ?_⟩
    · have ht := tailB_exit (o := o) gk
      obtain ⟨k, n⟩ := o
      simp only at h ht
      have hte : ∀ q : Int, tailB (endOf q :: r2) = false := fun q => by
        unfold endOf
        cases r2 <;> split <;> simp [tailB]
      rw [codeL]
      rcases h with rfl | rfl | rfl
      · rw [bodyM_op (by rw [ht]; simp)]
        simp only [opM3]
        rw [j1, bodyM_op (by rw [hte]; simp)]
        simp only [endOf]
        rw [if_neg (by decide), opM5 _ _ _ _ _ (by omega)]
        simp only
        rw [j2]
        have hn := codeL_len kids hl.1 tail false (m.L.length + 1)
        simp [codeT, wideT, Tr.k, hn]
        rw [show m.L.length + (1 + wideL tail false kids) = m.L.length + (wideL tail false kids + 1) by omega, show (m.L.length : Int) + ((wideL tail false kids : Int) + 1) = (m.L.length : Int) + 1 + (wideL tail false kids : Int) by omega]
      · rw [bodyM_op (by rw [ht]; simp)]
        simp only [opM4]
        rw [j1, bodyM_op (by rw [hte]; simp)]
        simp only [endOf]
        rw [if_neg (by decide), opM5 _ _ _ _ _ (by omega)]
        simp only
        rw [j2]
        have hn := codeL_len kids hl.1 tail false (m.L.length + 1)
        simp [codeT, wideT, Tr.k, hn]
        rw [show m.L.length + (1 + wideL tail false kids) = m.L.length + (wideL tail false kids + 1) by omega, show (m.L.length : Int) + ((wideL tail false kids : Int) + 1) = (m.L.length : Int) + 1 + (wideL tail false kids : Int) by omega]
      · rw [bodyM_op (by rw [ht]; simp)]
        simp only [opM6]
        rw [j1, bodyM_op (by rw [hte]; simp)]
        simp only [endOf]
        rw [if_pos trivial, opM7 _ _ _ _ _ (by omega)]
        simp only
        rw [j2]
        have hn := codeL_len kids hl.1 tail false (m.L.length + 1)
        simp [codeT, wideT, Tr.k, hn]
        rw [show m.L.length + (1 + wideL tail false kids + 1) = m.L.length + (wideL tail false kids + 1 + 1) by omega]
    · injection hx with hx1 hx2
      subst hx1
      omega
end Go.Proofs.YtofikgjoiidhmaaGreatDoor

namespace Go.Proofs.YtofikgjoiidhmaaGreatDoor
open Go.RowKit Go

abbrev cdV (s : Int × Int) : Value := .agg #[.int .i64 s.1, .int .i64 s.2]
def cdv : List (Int × Int) → List Value
  | [] => []
  | s :: r => .int .i64 s.1 :: .int .i64 s.2 :: cdv r
theorem cdv_len (xs : List (Int × Int)) : (cdv xs).length = xs.length * 2 := by
  induction xs with
  | nil => rfl
  | cons s r ih => simp only [cdv, List.length_cons, ih]; omega
theorem cdv_app (xs ys : List (Int × Int)) : cdv (xs ++ ys) = cdv xs ++ cdv ys := by
  induction xs with
  | nil => rfl
  | cons s r ih => simp only [cdv, List.cons_append, ih]
theorem cdv_get0 {xs : List (Int × Int)} {i : Nat} (h : i < xs.length) : (cdv xs)[i * 2]? = some (.int .i64 xs[i].1) := by
  induction xs generalizing i with
  | nil => simp at h
  | cons s r ih =>
    cases i with
    | zero => simp [cdv]
    | succ i =>
      have := ih (i := i) (by simpa using h)
      rw [show (i + 1) * 2 = i * 2 + 2 by omega]
      simpa [cdv] using this
theorem cdv_get1 {xs : List (Int × Int)} {i : Nat} (h : i < xs.length) : (cdv xs)[i * 2 + 1]? = some (.int .i64 xs[i].2) := by
  induction xs generalizing i with
  | nil => simp at h
  | cons s r ih =>
    cases i with
    | zero => simp [cdv]
    | succ i =>
      have := ih (i := i) (by simpa using h)
      rw [show (i + 1) * 2 + 1 = i * 2 + 1 + 2 by omega]
      simpa [cdv] using this
theorem cdv_set0 {xs : List (Int × Int)} {i : Nat} (h : i < xs.length) (m : Int) : (cdv xs).set (i * 2) (.int .i64 m) = cdv (xs.set i (m, xs[i].2)) := by
  induction xs generalizing i with
  | nil => simp at h
  | cons s r ih =>
    cases i with
    | zero => simp [cdv]
    | succ i =>
      have := ih (i := i) (by simpa using h)
      rw [show (i + 1) * 2 = i * 2 + 2 by omega]
      simpa [cdv] using this
theorem cdv_set1 {xs : List (Int × Int)} {i : Nat} (h : i < xs.length) (m : Int) : (cdv xs).set (i * 2 + 1) (.int .i64 m) = cdv (xs.set i (xs[i].1, m)) := by
  induction xs generalizing i with
  | nil => simp at h
  | cons s r ih =>
    cases i with
    | zero => simp [cdv]
    | succ i =>
      have := ih (i := i) (by simpa using h)
      rw [show (i + 1) * 2 + 1 = i * 2 + 1 + 2 by omega]
      simpa [cdv] using this
theorem cdv_set {xs : List (Int × Int)} {i : Nat} (h : i < xs.length) (s : Int × Int) : ((cdv xs).set (i * 2) (.int .i64 s.1)).set (i * 2 + 1) (.int .i64 s.2) = cdv (xs.set i s) := by
  rw [cdv_set0 h, cdv_set1 (by simpa using h)]
  simp
theorem cdv_one : ∀ {xs : List (Int × Int)}, ∀ u ∈ cdv xs, u.oneCell' = true := by
  intro xs
  induction xs with
  | nil => intro u hu; cases hu
  | cons s r ih =>
    intro u hu
    simp only [cdv, List.mem_cons] at hu
    rcases hu with rfl | rfl | hu
    · rfl
    · rfl
    · exact ih u hu
/-- A list of steps that can be read. -/
def RdIc (w : World) (v : Value) (xs : List (Int × Int)) : Prop :=
  ∃ (A : Option Addr) (cap : Nat), v = .slice A xs.length cap ∧ xs.length ≤ 4611686018427387904 ∧ ∀ i (h : i < xs.length), ∃ a, A = some a ∧ a.block < w.heap.size ∧ w.cell? (a.add (i * 2)) = some (.int .i64 xs[i].1) ∧ w.cell? ((a.add (i * 2)).add 1) = some (.int .i64 xs[i].2)
theorem RdIc.below {w w' : World} {v : Value} {xs : List (Int × Int)} (h : RdIc w v xs) (hb : Below w.heap.size w w') : RdIc w' v xs := by
  obtain ⟨A, cap, rfl, hl, hc⟩ := h
  refine ⟨A, cap, rfl, hl, fun i hi => ?_⟩
  obtain ⟨a, rfl, e2, e3, e4⟩ := hc i hi
  exact ⟨a, rfl, by have := hb.size; omega, (hb.cell (by rw [addr_addb]; exact e2)).trans e3, (hb.cell (by rw [addr_addb, addr_addb]; exact e2)).trans e4⟩
theorem RdIc.of_own {w : World} {base : Nat} {e : TypeId} {v : Value} {xs : List (Int × Int)} (h : w.ownsRow base e 2 v xs.length (cdv xs)) (hl : xs.length ≤ 4611686018427387904) : RdIc w v xs := by
  rcases h.2 with ⟨rfl, h0⟩ | ⟨g, cap, cur, rfl, hb, hg, hn, hm, hsz, ht⟩
  · refine ⟨none, 0, by rw [h0], hl, fun i hi => by omega⟩
  · refine ⟨_, cap, rfl, hl, fun i hi => ⟨⟨g, 0, none⟩, rfl, (Array.getElem?_eq_some_iff.1 hg).1, ?_, ?_⟩⟩
    · rw [addr_lit, Nat.zero_add, cell_of_row w g (i * 2) cur e (0, 0) hg]
      have h1 := congrArg (·[i * 2]?) ht
      simp only [cdv_get0 hi, List.getElem?_take] at h1
      rw [if_pos (by omega)] at h1
      simpa using h1
    · rw [addr_lit, Nat.zero_add, addr_lit, cell_of_row w g (i * 2 + 1) cur e (0, 0) hg]
      have h1 := congrArg (·[i * 2 + 1]?) ht
      simp only [cdv_get1 hi, List.getElem?_take] at h1
      rw [if_pos (by omega)] at h1
      simpa using h1
theorem RdIc.form {w : World} {v : Value} {xs : List (Int × Int)} (h : RdIc w v xs) : ∃ A cap, v = .slice A xs.length cap := by
  obtain ⟨A, cap, e, -⟩ := h
  exact ⟨A, cap, e⟩
/-- A new list of steps. -/
def NewIc (w : World) (xs : List (Int × Int)) (e : Ending) (w' : World) : Prop := ∃ v, e = .returned v ∧ w'.ownsRow w.heap.size 72 2 v xs.length (cdv xs) ∧ Below w.heap.size w w'
/-- n marks, from k on. -/
def marksIc (k n : Nat) : List (Int × Int) := (List.range n).map fun (j : Nat) => (((k + 2 * j : Nat) : Int), ((k + 2 * j + 1 : Nat) : Int))
theorem marksIc_len (k n : Nat) : (marksIc k n).length = n := by simp [marksIc]
theorem marksIc_succ (k i : Nat) : marksIc k (i + 1) = marksIc k i ++ [(((k + 2 * i : Nat) : Int), ((k + 2 * i + 1 : Nat) : Int))] := by unfold marksIc; rw [List.range_succ, List.map_append, List.map_cons, List.map_nil]
theorem marksIc_get (k n i : Nat) (h : i < (marksIc k n).length) : (marksIc k n)[i] = ((k : Int) + 2 * (i : Int), (k : Int) + 2 * (i : Int) + 1) := by simp [marksIc]
def halfIc (k i : Nat) (xs : List (Int × Int)) : List (Int × Int) := marksIc k i ++ xs.drop i
theorem halfIc_len (k i : Nat) (xs : List (Int × Int)) (h : i ≤ xs.length) : (halfIc k i xs).length = xs.length := by simp [halfIc, marksIc_len]; omega
theorem halfIc_set {xs : List (Int × Int)} {k i : Nat} (h : i < xs.length) : (halfIc k i xs).set i ((k : Int) + 2 * (i : Int), (k : Int) + 2 * (i : Int) + 1) = halfIc k (i + 1) xs := by
  unfold halfIc
  rw [marksIc_succ, List.set_append_right _ _ (by simp [marksIc_len]), marksIc_len, Nat.sub_self, List.drop_eq_getElem_cons h, List.set_cons_zero]
  simp

end Go.Proofs.YtofikgjoiidhmaaGreatDoor

namespace Go.Proofs.YtofikgjoiidhmaaGreatDoor
open Go.RowKit Go

/-- The cells of one step of a list, as the walk spells them. -/
theorem RdIc.item {w : World} {A : Option Addr} {n cap : Nat} {xs : List (Int × Int)} (h : RdIc w (.slice A n cap) xs) {i : Nat} (hi : i < xs.length) : ∃ a, A = some a ∧ a.block < w.heap.size ∧ w.cell? (a.add (i * 2)) = some (.int .i64 xs[i].1) ∧ w.cell? ⟨(a.add (i * 2)).block, (a.add (i * 2)).off + 1, none⟩ = some (.int .i64 xs[i].2) := by
  obtain ⟨A3, c4, hv4, -, hc4⟩ := h
  injection hv4 with e1 e2 e3
  subst e1 e3
  obtain ⟨a, rfl, hb, q0, q1⟩ := hc4 i hi
  exact ⟨a, rfl, hb, q0, q1⟩
theorem infoIc : (Tryz.prog.info? 72).map (fun i => (i.zero, i.size, i.bytes)) = some (some (.agg #[.int .i64 0, .int .i64 0]), 2, 16) := by kernel_rfl

theorem cdv_mid {xs : List (Int × Int)} {k i : Nat} (h : i < xs.length) : ((cdv (halfIc k i xs)).set (i * 2) (.int .i64 ((k : Int) + 2 * (i : Int)))).set (i * 2 + 1) (.int .i64 ((k : Int) + 2 * (i : Int) + 1)) = cdv (halfIc k (i + 1) xs) := by
  have hl := halfIc_len k i xs (by omega)
  rw [cdv_set (xs := halfIc k i xs) (by omega) ((k : Int) + 2 * (i : Int), (k : Int) + 2 * (i : Int) + 1), halfIc_set h]
def copiedIc (xs : List (Int × Int)) (i : Nat) : List (Int × Int) := xs.take i ++ List.replicate (xs.length - i) (0, 0)
theorem copiedIc_len (xs : List (Int × Int)) (i : Nat) (h : i ≤ xs.length) : (copiedIc xs i).length = xs.length := by simp [copiedIc]; omega
theorem cdv_rep (n : Nat) : cdv (List.replicate n (0, 0)) = (List.replicate n [Value.int .i64 0, Value.int .i64 0]).flatten := by
  induction n with
  | zero => rfl
  | succ n ih => simp only [List.replicate_succ, cdv, ih, List.flatten_cons, List.cons_append, List.nil_append]
theorem copiedIc_zero (xs : List (Int × Int)) : cdv (copiedIc xs 0) = (List.replicate xs.length [Value.int .i64 0, Value.int .i64 0]).flatten := by simp [copiedIc, cdv_rep]
theorem copiedIc_full (xs : List (Int × Int)) : copiedIc xs xs.length = xs := by simp [copiedIc]
theorem copiedIc_set {xs : List (Int × Int)} {i : Nat} (h : i < xs.length) : ((cdv (copiedIc xs i)).set (i * 2) (.int .i64 xs[i].1)).set (i * 2 + 1) (.int .i64 xs[i].2) = cdv (copiedIc xs (i + 1)) := by
  rw [cdv_set (xs := copiedIc xs i) (by rw [copiedIc_len xs i (by omega)]; exact h)]
  congr 1
  unfold copiedIc
  obtain ⟨m, hm⟩ : ∃ m, xs.length - i = m + 1 := ⟨xs.length - i - 1, by omega⟩
  rw [hm, show xs.length - (i + 1) = m by omega, List.replicate_succ, List.set_append_right _ _ (by simp; omega)]
  have : i - (xs.take i).length = 0 := by simp; omega
  rw [this, List.set_cons_zero, List.take_succ_eq_append_getElem h, List.append_assoc]
  rfl
theorem made_cdv (n : Nat) : (madeCells #[Value.int .i64 0, Value.int .i64 0] (n * 2)).toList = cdv (List.replicate n (0, 0)) := by
  refine List.ext_getElem (by simp [madeCells, cdv_len]) fun i h1 h2 => ?_
  have h3 : i < n * 2 := by simpa [madeCells] using h1
  obtain ⟨j, hj⟩ : ∃ j, i = j * 2 ∨ i = j * 2 + 1 := ⟨i / 2, by omega⟩
  rcases hj with rfl | rfl
  · have := cdv_get0 (xs := List.replicate n (0, 0)) (i := j) (by simp; omega)
    rw [List.getElem?_eq_getElem h2] at this
    rw [Option.some.inj this]
    simp [madeCells]
  · have := cdv_get1 (xs := List.replicate n (0, 0)) (i := j) (by simp; omega)
    rw [List.getElem?_eq_getElem h2] at this
    rw [Option.some.inj this]
    have e : (j * 2 + 1) % 2 = 1 := by omega
    simp [madeCells, e]
end Go.Proofs.YtofikgjoiidhmaaGreatDoor

namespace Go.Proofs.YtofikgjoiidhmaaGreatDoor
open Go.RowKit Go

theorem row_sameM {w w' : World} {base size : Nat} {e : TypeId} {v : Value} {n : Nat} {xs : List Value} (h : w.ownsRow base e size v n xs) (hk : ∀ g, v.ownBlock = some g → w'.heap[g]? = w.heap[g]?) : w'.ownsRow base e size v n xs := by
  refine ⟨h.1, ?_⟩
  rcases h.2 with hn | ⟨g, cap, cur, rfl, hb, hgg, rest⟩
  · exact .inl hn
  · refine .inr ⟨g, cap, cur, rfl, hb, ?_, rest⟩
    rw [hk g (by simp [Value.ownBlock])]
    exact hgg
theorem own_formM {w : World} {base size : Nat} {e : TypeId} {v : Value} {n : Nat} {xs : List Value} (h : w.ownsRow base e size v n xs) : ∃ A cap, v = .slice A n cap := by
  rcases h.2 with ⟨rfl, h0⟩ | ⟨g, cap, cur, rfl, -⟩
  · exact ⟨none, 0, by rw [h0]⟩
  · exact ⟨_, _, rfl⟩
theorem own_posM {w : World} {base size : Nat} {e : TypeId} {v : Value} {n : Nat} {xs : List Value} (h : w.ownsRow base e size v n xs) (hn : 0 < n) : ∃ q cap, v = .slice (some ⟨q, 0, none⟩) n cap ∧ n ≤ cap ∧ q < w.heap.size ∧ base ≤ q := by
  rcases h.2 with ⟨rfl, h0⟩ | ⟨g, cap, cur, rfl, hb, hg, hc, -⟩
  · omega
  · exact ⟨g, cap, rfl, hc, (Array.getElem?_eq_some_iff.1 hg).1, hb⟩
theorem box_neM {W : World} {g base size : Nat} {t e : TypeId} {cs : Array Value} {v : Value} {n : Nat} {xs : List Value} (hk : Blk W g t cs) (ho : W.ownsRow base e size v n xs) (ht : t ≠ e) : v.ownBlock ≠ some g := by
  rcases ho.2 with ⟨rfl, -⟩ | ⟨q, cap, cur, rfl, -, hq, -⟩
  · simp [Value.ownBlock]
  · intro h
    have h : q = g := by simpa [Value.ownBlock] using h
    subst h
    unfold Blk at hk
    rw [hk] at hq
    injection hq with h1
    injection h1 with _ h2
    exact ht h2
theorem types_neM {w : World} {b1 b2 s1 s2 n1 n2 : Nat} {e1 e2 : TypeId} {u v : Value} {xs ys : List Value} (h1 : w.ownsRow b1 e1 s1 u n1 xs) (h2 : w.ownsRow b2 e2 s2 v n2 ys) (he : e1 ≠ e2) : ∀ g, u.ownBlock = some g → v.ownBlock ≠ some g := by
  intro g hg hv
  rcases h1.2 with ⟨rfl, -⟩ | ⟨q, cap, cur, rfl, -, hq, -⟩
  · simp [Value.ownBlock] at hg
  · have hg : some q = some g := hg
    injection hg with hg
    subst hg
    rcases h2.2 with ⟨rfl, -⟩ | ⟨r, cap2, cur2, rfl, -, hr, -⟩
    · simp [Value.ownBlock] at hv
    · have hv : some r = some q := hv
      injection hv with hv
      subst hv
      rw [hq] at hr
      injection hr with h1
      injection h1 with _ h2
      exact he h2
/-- The maker's box, its rows, and blocks that no one writes. -/
structure Mk4 (lo g : Nat) (w : World) (Fz : List (Nat × Obj)) (vl vs ve vc : Value) (l : List (Int × Int)) (st : List Int) (ec cc : List Value) : Prop where
  box : Blk w g 64 #[vl, vs, ve, vc]
  rl : w.ownsRow lo 72 2 vl l.length (cdv l)
  rs : w.ownsRow lo 3 1 vs st.length (st.map lv)
  re : w.ownsRow lo 1 1 ve ec.length ec
  rc : w.ownsRow lo 1 1 vc cc.length cc
  ap : ∀ k, ve.ownBlock = some k → vc.ownBlock ≠ some k
  fz : ∀ p ∈ Fz, w.heap[p.1]? = some p.2 ∧ lo ≤ p.1 ∧ p.1 ≠ g ∧ vl.ownBlock ≠ some p.1 ∧ vs.ownBlock ≠ some p.1 ∧ ve.ownBlock ≠ some p.1 ∧ vc.ownBlock ≠ some p.1
  low : lo ≤ g
section
variable {lo g : Nat} {w w2 : World} {Fz : List (Nat × Obj)} {vl vs ve vc : Value} {l : List (Int × Int)} {st : List Int} {ec cc : List Value}
theorem Mk4.below (h : Mk4 lo g w Fz vl vs ve vc l st ec cc) (hb : Below w.heap.size w w2) : Mk4 lo g w2 Fz vl vs ve vc l st ec cc := by
  have key : ∀ {base size n : Nat} {e : TypeId} {v : Value} {xs : List Value}, w.ownsRow base e size v n xs → w2.ownsRow base e size v n xs := fun ho => row_sameM ho (fun k hk => hb.block k (World.ownsRow.lt ho k hk).2)
  exact ⟨h.box.below hb h.box.lt, key h.rl, key h.rs, key h.re, key h.rc, h.ap, fun p hp => ⟨(hb.block p.1 (Array.getElem?_eq_some_iff.1 (h.fz p hp).1).1).trans (h.fz p hp).1, (h.fz p hp).2⟩, h.low⟩
/-- A new block is held. -/
theorem Mk4.hold (h : Mk4 lo g w Fz vl vs ve vc l st ec cc) (o : Obj) : Mk4 lo g (w.alloc o) ((w.heap.size, o) :: Fz) vl vs ve vc l st ec cc := by
  have h2 := h.below (Below.alloc (Below.refl w.heap.size w) (Nat.le_refl _) o)
  have hlt : ∀ {base size n : Nat} {e : TypeId} {v : Value} {xs : List Value}, w.ownsRow base e size v n xs → v.ownBlock ≠ some w.heap.size := fun ho hk => by have := (World.ownsRow.lt ho _ hk).2; omega
  refine { h2 with fz := fun p hp => ?_ }
  rcases List.mem_cons.1 hp with rfl | hp
  · have := h.box.lt
    have := h.low
    exact ⟨heap_alloc_new w o, by simp only; omega, by simp only; omega, hlt h.rl, hlt h.rs, hlt h.re, hlt h.rc⟩
  · exact h2.fz p hp
theorem Mk4.cell (h : Mk4 lo g w Fz vl vs ve vc l st ec cc) {b : Nat} {u : Value} {t : TypeId} (hb : (b, Obj.cells #[u] t) ∈ Fz) : w.cell? ⟨b, 0, none⟩ = some u := by
  have := (h.fz _ hb).1
  rw [cell_of_row w b 0 #[u] t (0, 0) this]
  rfl
theorem Mk4.cells2 (h : Mk4 lo g w Fz vl vs ve vc l st ec cc) {b : Nat} {u v : Value} {t : TypeId} (hb : (b, Obj.cells #[u, v] t) ∈ Fz) : w.cell? ⟨b, 0, none⟩ = some u ∧ w.cell? ⟨b, 1, none⟩ = some v := by
  have := (h.fz _ hb).1
  exact ⟨by rw [cell_of_row w b 0 #[u, v] t (0, 0) this]; rfl, by rw [cell_of_row w b 1 #[u, v] t (0, 0) this]; rfl⟩
theorem Mk4.weak {Gz : List (Nat × Obj)} (h : Mk4 lo g w Fz vl vs ve vc l st ec cc) (hs : ∀ p ∈ Gz, p ∈ Fz) : Mk4 lo g w Gz vl vs ve vc l st ec cc := { h with fz := fun p hp => h.fz p (hs p hp) }
theorem appalt_where {w w' : World} {n m : Nat} {d d' : Value} (h : AppAlt w w' d d' n m) : ∀ k, d'.ownBlock = some k → d.ownBlock = some k ∨ w.heap.size ≤ k := by
  intro k hk
  rcases h with ⟨g, cap, rfl, -, rfl, -⟩ | ⟨-, h⟩
  · exact .inl hk
  · exact .inr (h k hk)
/-- Row L has grown, and the box says so. -/
theorem Mk4.putL (h : Mk4 lo g w Fz vl vs ve vc l st ec cc) (l2 : List (Int × Int)) {v' : Value} {n m : Nat} (ho : w2.ownsRow lo 72 2 v' l2.length (cdv l2)) (ha : AppAlt w w2 vl v' n m) : Mk4 lo g (w2.setCell ⟨g, 0, none⟩ v') Fz v' vs ve vc l2 st ec cc ∧ Below lo w (w2.setCell ⟨g, 0, none⟩ v') := by
  have hgr := ha.grown
  have hne : vl.ownBlock ≠ some g := box_neM h.box h.rl (by decide)
  have hB2 : Blk w2 g 64 #[vl, vs, ve, vc] := h.box.grown hgr (fun e => hne e.symm)
  have key : ∀ {base size k : Nat} {e : TypeId} {u : Value} {xs : List Value}, w.ownsRow base e size u k xs → (∀ k, u.ownBlock = some k → vl.ownBlock ≠ some k) → 64 ≠ e → (w2.setCell ⟨g, 0, none⟩ v').ownsRow base e size u k xs := fun hr hn hm => row_sameM hr (fun k hk => (Below.heap_setCell w2 _ _ k (fun e => by
    have e : k = g := e
    subst e
    exact box_neM h.box hr hm hk)).trans (hgr.block k (World.ownsRow.lt hr k hk).2 (fun e => hn k hk e.symm)))
  have hb0 : Below lo w w2 := ⟨hgr.os, hgr.tape, hgr.output, hgr.size, fun k hk => hgr.block k (by have := h.box.lt; have := h.low; omega) (fun e => by have := (World.ownsRow.lt h.rl k e.symm).1; omega)⟩
  have hbox := hB2.put 0 v'
  refine ⟨⟨by simpa using hbox, row_sameM ho (fun k hk => Below.heap_setCell w2 _ _ k (fun e => box_neM hB2 ho (by decide) (by rw [hk, e]))), key h.rs (types_neM h.rs h.rl (by decide)) (by decide), key h.re (types_neM h.re h.rl (by decide)) (by decide), key h.rc (types_neM h.rc h.rl (by decide)) (by decide), h.ap, fun p hp => ?_, h.low⟩, hb0.setCell (p := ⟨g, 0, none⟩) h.low _⟩
  have hp0 := h.fz p hp
  have hlt := (Array.getElem?_eq_some_iff.1 hp0.1).1
  have hnew : v'.ownBlock ≠ some p.1 := fun e => by
    rcases appalt_where ha p.1 e with h1 | h1
    · exact (h.fz p hp).2.2.2.1 h1
    · omega
  exact ⟨(Below.heap_setCell w2 _ _ p.1 (fun e => hp0.2.2.1 e)).trans ((hgr.block p.1 hlt (fun e => (h.fz p hp).2.2.2.1 e.symm)).trans hp0.1), hp0.2.1, hp0.2.2.1, hnew, (h.fz p hp).2.2.2.2.1, (h.fz p hp).2.2.2.2.2.1, (h.fz p hp).2.2.2.2.2.2⟩
/-- Row S has grown, and the box says so. -/
theorem Mk4.putS (h : Mk4 lo g w Fz vl vs ve vc l st ec cc) (s2 : List Int) {v' : Value} {n m : Nat} (ho : w2.ownsRow lo 3 1 v' s2.length (s2.map lv)) (ha : AppAlt w w2 vs v' n m) : Mk4 lo g (w2.setCell ⟨g, 1, none⟩ v') Fz vl v' ve vc l s2 ec cc ∧ Below lo w (w2.setCell ⟨g, 1, none⟩ v') := by
  have hgr := ha.grown
  have hne : vs.ownBlock ≠ some g := box_neM h.box h.rs (by decide)
  have hB2 : Blk w2 g 64 #[vl, vs, ve, vc] := h.box.grown hgr (fun e => hne e.symm)
  have key : ∀ {base size k : Nat} {e : TypeId} {u : Value} {xs : List Value}, w.ownsRow base e size u k xs → (∀ k, u.ownBlock = some k → vs.ownBlock ≠ some k) → 64 ≠ e → (w2.setCell ⟨g, 1, none⟩ v').ownsRow base e size u k xs := fun hr hn hm => row_sameM hr (fun k hk => (Below.heap_setCell w2 _ _ k (fun e => by
    have e : k = g := e
    subst e
    exact box_neM h.box hr hm hk)).trans (hgr.block k (World.ownsRow.lt hr k hk).2 (fun e => hn k hk e.symm)))
  have hb0 : Below lo w w2 := ⟨hgr.os, hgr.tape, hgr.output, hgr.size, fun k hk => hgr.block k (by have := h.box.lt; have := h.low; omega) (fun e => by have := (World.ownsRow.lt h.rs k e.symm).1; omega)⟩
  have hbox := hB2.put 1 v'
  refine ⟨⟨by simpa using hbox, key h.rl (types_neM h.rl h.rs (by decide)) (by decide), row_sameM ho (fun k hk => Below.heap_setCell w2 _ _ k (fun e => box_neM hB2 ho (by decide) (by rw [hk, e]))), key h.re (types_neM h.re h.rs (by decide)) (by decide), key h.rc (types_neM h.rc h.rs (by decide)) (by decide), h.ap, fun p hp => ?_, h.low⟩, hb0.setCell (p := ⟨g, 1, none⟩) h.low _⟩
  have hp0 := h.fz p hp
  have hlt := (Array.getElem?_eq_some_iff.1 hp0.1).1
  have hnew : v'.ownBlock ≠ some p.1 := fun e => by
    rcases appalt_where ha p.1 e with h1 | h1
    · exact (h.fz p hp).2.2.2.2.1 h1
    · omega
  exact ⟨(Below.heap_setCell w2 _ _ p.1 (fun e => hp0.2.2.1 e)).trans ((hgr.block p.1 hlt (fun e => (h.fz p hp).2.2.2.2.1 e.symm)).trans hp0.1), hp0.2.1, hp0.2.2.1, (h.fz p hp).2.2.2.1, hnew, (h.fz p hp).2.2.2.2.2.1, (h.fz p hp).2.2.2.2.2.2⟩
/-- Row E has grown, and the box says so. -/
theorem Mk4.putE (h : Mk4 lo g w Fz vl vs ve vc l st ec cc) (e2 : List Value) {v' : Value} {n m : Nat} (ho : w2.ownsRow lo 1 1 v' e2.length e2) (ha : AppAlt w w2 ve v' n m) : Mk4 lo g (w2.setCell ⟨g, 2, none⟩ v') Fz vl vs v' vc l st e2 cc ∧ Below lo w (w2.setCell ⟨g, 2, none⟩ v') := by
  have hgr := ha.grown
  have hne : ve.ownBlock ≠ some g := box_neM h.box h.re (by decide)
  have hB2 : Blk w2 g 64 #[vl, vs, ve, vc] := h.box.grown hgr (fun e => hne e.symm)
  have key : ∀ {base size k : Nat} {e : TypeId} {u : Value} {xs : List Value}, w.ownsRow base e size u k xs → (∀ k, u.ownBlock = some k → ve.ownBlock ≠ some k) → 64 ≠ e → (w2.setCell ⟨g, 2, none⟩ v').ownsRow base e size u k xs := fun hr hn hm => row_sameM hr (fun k hk => (Below.heap_setCell w2 _ _ k (fun e => by
    have e : k = g := e
    subst e
    exact box_neM h.box hr hm hk)).trans (hgr.block k (World.ownsRow.lt hr k hk).2 (fun e => hn k hk e.symm)))
  have hb0 : Below lo w w2 := ⟨hgr.os, hgr.tape, hgr.output, hgr.size, fun k hk => hgr.block k (by have := h.box.lt; have := h.low; omega) (fun e => by have := (World.ownsRow.lt h.re k e.symm).1; omega)⟩
  have hbox := hB2.put 2 v'
  refine ⟨⟨by simpa using hbox, key h.rl (types_neM h.rl h.re (by decide)) (by decide), key h.rs (types_neM h.rs h.re (by decide)) (by decide), row_sameM ho (fun k hk => Below.heap_setCell w2 _ _ k (fun e => box_neM hB2 ho (by decide) (by rw [hk, e]))), key h.rc ((fun k hk hv => h.ap k hv hk)) (by decide), fun k hk hv => by
    rcases appalt_where ha k hk with h1 | h1
    · exact h.ap k h1 hv
    · have := (World.ownsRow.lt h.rc k hv).2; omega, fun p hp => ?_, h.low⟩, hb0.setCell (p := ⟨g, 2, none⟩) h.low _⟩
  have hp0 := h.fz p hp
  have hlt := (Array.getElem?_eq_some_iff.1 hp0.1).1
  have hnew : v'.ownBlock ≠ some p.1 := fun e => by
    rcases appalt_where ha p.1 e with h1 | h1
    · exact (h.fz p hp).2.2.2.2.2.1 h1
    · omega
  exact ⟨(Below.heap_setCell w2 _ _ p.1 (fun e => hp0.2.2.1 e)).trans ((hgr.block p.1 hlt (fun e => (h.fz p hp).2.2.2.2.2.1 e.symm)).trans hp0.1), hp0.2.1, hp0.2.2.1, (h.fz p hp).2.2.2.1, (h.fz p hp).2.2.2.2.1, hnew, (h.fz p hp).2.2.2.2.2.2⟩
/-- Row C has grown, and the box says so. -/
theorem Mk4.putC (h : Mk4 lo g w Fz vl vs ve vc l st ec cc) (c2 : List Value) {v' : Value} {n m : Nat} (ho : w2.ownsRow lo 1 1 v' c2.length c2) (ha : AppAlt w w2 vc v' n m) : Mk4 lo g (w2.setCell ⟨g, 3, none⟩ v') Fz vl vs ve v' l st ec c2 ∧ Below lo w (w2.setCell ⟨g, 3, none⟩ v') := by
  have hgr := ha.grown
  have hne : vc.ownBlock ≠ some g := box_neM h.box h.rc (by decide)
  have hB2 : Blk w2 g 64 #[vl, vs, ve, vc] := h.box.grown hgr (fun e => hne e.symm)
  have key : ∀ {base size k : Nat} {e : TypeId} {u : Value} {xs : List Value}, w.ownsRow base e size u k xs → (∀ k, u.ownBlock = some k → vc.ownBlock ≠ some k) → 64 ≠ e → (w2.setCell ⟨g, 3, none⟩ v').ownsRow base e size u k xs := fun hr hn hm => row_sameM hr (fun k hk => (Below.heap_setCell w2 _ _ k (fun e => by
    have e : k = g := e
    subst e
    exact box_neM h.box hr hm hk)).trans (hgr.block k (World.ownsRow.lt hr k hk).2 (fun e => hn k hk e.symm)))
  have hb0 : Below lo w w2 := ⟨hgr.os, hgr.tape, hgr.output, hgr.size, fun k hk => hgr.block k (by have := h.box.lt; have := h.low; omega) (fun e => by have := (World.ownsRow.lt h.rc k e.symm).1; omega)⟩
  have hbox := hB2.put 3 v'
  refine ⟨⟨by simpa using hbox, key h.rl (types_neM h.rl h.rc (by decide)) (by decide), key h.rs (types_neM h.rs h.rc (by decide)) (by decide), key h.re (h.ap) (by decide), row_sameM ho (fun k hk => Below.heap_setCell w2 _ _ k (fun e => box_neM hB2 ho (by decide) (by rw [hk, e]))), fun k hk hv => by
    rcases appalt_where ha k hv with h1 | h1
    · exact h.ap k hk h1
    · have := (World.ownsRow.lt h.re k hk).2; omega, fun p hp => ?_, h.low⟩, hb0.setCell (p := ⟨g, 3, none⟩) h.low _⟩
  have hp0 := h.fz p hp
  have hlt := (Array.getElem?_eq_some_iff.1 hp0.1).1
  have hnew : v'.ownBlock ≠ some p.1 := fun e => by
    rcases appalt_where ha p.1 e with h1 | h1
    · exact (h.fz p hp).2.2.2.2.2.2 h1
    · omega
  exact ⟨(Below.heap_setCell w2 _ _ p.1 (fun e => hp0.2.2.1 e)).trans ((hgr.block p.1 hlt (fun e => (h.fz p hp).2.2.2.2.2.2 e.symm)).trans hp0.1), hp0.2.1, hp0.2.2.1, (h.fz p hp).2.2.2.1, (h.fz p hp).2.2.2.2.1, (h.fz p hp).2.2.2.2.2.1, hnew⟩
end
end Go.Proofs.YtofikgjoiidhmaaGreatDoor

namespace Go.Proofs.YtofikgjoiidhmaaGreatDoor
open Go.RowKit Go

theorem src_ins (w : World) (a b : Value) : SrcAt (w.alloc (.cells #[a, b] 72)) 2 (.slice (some ⟨w.heap.size, 0, none⟩) 1 1) 1 [a, b] := by
  refine ⟨_, _, rfl, rfl, fun h => by simp at h, fun q hq j x hj => ?_⟩
  obtain rfl : q = ⟨w.heap.size, 0, none⟩ := by injection hq with hq; exact hq.symm
  rw [addr_lit, cell_of_row _ w.heap.size (0 + j) #[a, b] 72 (0, 0) (heap_alloc_new w _), Nat.zero_add]
  simpa using hj
theorem src_fn (w : World) (a : Value) : SrcAt (w.alloc (.cells #[a] 1)) 1 (.slice (some ⟨w.heap.size, 0, none⟩) 1 1) 1 [a] := by
  refine ⟨_, _, rfl, rfl, fun h => by simp at h, fun q hq j x hj => ?_⟩
  obtain rfl : q = ⟨w.heap.size, 0, none⟩ := by injection hq with hq; exact hq.symm
  rw [addr_lit, cell_of_row _ w.heap.size (0 + j) #[a] 1 (0, 0) (heap_alloc_new w _), Nat.zero_add]
  simpa using hj
theorem infoF : (Tryz.prog.info? 1).map (fun i => (i.zero, i.size, i.bytes)) = some (some .nilFunc, 1, 8) := by kernel_rfl
section
variable {lo g : Nat} {w : World} {Fz : List (Nat × Obj)} {vl vs ve vc : Value} {l : List (Int × Int)} {st : List Int} {ec cc : List Value}
set_option maxRecDepth 100000 in
set_option maxHeartbeats 2000000 in
theorem step_any (op n : Int) (hl : l.length ≤ 3000) (h : Mk4 lo g w Fz vl vs ve vc l st ec cc) :
    Calls Tryz.prog 33 #[.pointer (some ⟨g, 0, none⟩), .int .i64 op, .int .i64 n] w fun e w' => e = .returned (.tuple #[]) ∧ (∃ v', Mk4 lo g w' Fz v' vs ve vc (l ++ [(op, n)]) st ec cc) ∧ Below lo w w' := by
  obtain ⟨A, cap, rfl⟩ := own_formM h.rl
  obtain ⟨i0, hi0, hz0, hz1, hz2⟩ := info_parts infoIc
  obtain ⟨N, hN⟩ : ∃ N, l.length = N := ⟨_, rfl⟩
  have hlo : lo ≤ w.heap.size := by have := h.low; have := h.box.lt; omega
  have hb1 : Below w.heap.size w (w.alloc (.cells #[.int .i64 op, .int .i64 n] 72)) := below_alloc1 w _
  have H1 := Lib.hid (h.below hb1)
  have HB1 := Lib.hid (hb1.mono hlo)
  have SRC := Lib.hid (src_ins w (.int .i64 op) (.int .i64 n))
  have p0 : w.cell? ⟨g, 0, none⟩ = some (.slice A l.length cap) := h.box.cell 0
  have RL := Lib.hid (H1.out.rl)
  rw [hN] at p0 hl RL H1
  have HN := Lib.hid hN
  have HLO := Lib.hid hlo
  clear h hb1 hN hlo
  go_enter Tryz.func33, Tryz.ntmps33
  go_wp2_with (at_builtin; refine wpList_append_src rfl _ _ 27 rfl lo 72 i0 (.agg #[.int .i64 0, .int .i64 0]) 2 16 Tryz.underlying27 hi0 hz0 hz1 hz2 rfl (by decide) _ N _ rfl RL.out _ 1 [.int .i64 op, .int .i64 n] rfl SRC.out (by simp [Value.oneCell']) (by unfold maxLen; omega) (by omega) (by have := HLO.out; simp; omega) ?_; intro v9 w9 ho9 ha9; obtain ⟨D9, dc9, hv9⟩ := own_formM ho9; subst hv9; refine unstop ?_)
  refine Stop.go ?_
  have hrow : w9.ownsRow lo 72 2 (.slice D9 (N + 1) dc9) (l ++ [(op, n)]).length (cdv (l ++ [(op, n)])) := by
    rw [List.length_append, HN.out, cdv_app]
    exact ho9
  have key := H1.out.putL (l2 := l ++ [(op, n)]) hrow ha9.out
  have KEY := Lib.hid key
  have hk2 : Blk w9 g 64 _ := H1.out.box.grown ha9.out.grown (fun e => box_neM H1.out.box H1.out.rl (by decide) e.symm)
  have f9 := hk2.frozen 0
  obtain ⟨u9, p9⟩ : ∃ u, w9.cell? ⟨g, 0, none⟩ = some u := ⟨_, hk2.cell 0⟩
  clear ho9 ha9 key hk2 hrow SRC p0 RL
  go_wp2_with fail
  go_end0
  exact ⟨rfl, ⟨_, KEY.out.1⟩, HB1.out.trans (KEY.out.2)⟩
set_option maxRecDepth 100000 in
set_option maxHeartbeats 2000000 in
theorem pushf_any (k9 : Nat) (caps : Array Value) (f : Value) (hf : f = .func (.func k9) #[] caps) (he : ec.length ≤ 3000) (h : Mk4 lo g w Fz vl vs ve vc l st ec cc) :
    Calls Tryz.prog 137 #[.pointer (some ⟨g, 2, none⟩), f] w fun e w' => e = .returned (.tuple #[]) ∧ (∃ v', Mk4 lo g w' Fz vl vs v' vc l st (ec ++ [f]) cc) ∧ Below lo w w' := by
  subst hf
  obtain ⟨f, hfe⟩ : ∃ f : Value, Value.func (.func k9) #[] caps = f := ⟨_, rfl⟩
  rw [hfe]
  obtain ⟨A, cap, rfl⟩ := own_formM h.re
  obtain ⟨i0, hi0, hz0, hz1, hz2⟩ := info_parts infoF
  obtain ⟨N, hN⟩ : ∃ N, ec.length = N := ⟨_, rfl⟩
  have hlo : lo ≤ w.heap.size := by have := h.low; have := h.box.lt; omega
  have hb1 : Below w.heap.size w (w.alloc (.cells #[f] 1)) := below_alloc1 w _
  have H1 := Lib.hid (h.below hb1)
  have HB1 := Lib.hid (hb1.mono hlo)
  have SRC := Lib.hid (src_fn w f)
  have p0 : w.cell? ⟨g, 2, none⟩ = some (.slice A ec.length cap) := h.box.cell 2
  have RL := Lib.hid (H1.out.re)
  rw [hN] at p0 he RL H1
  have HN := Lib.hid hN
  have HLO := Lib.hid hlo
  subst hfe
  clear h hb1 hN hlo
  go_enter Tryz.func137, Tryz.ntmps137
  go_wp2_with (at_builtin; refine wpList_append_src rfl _ _ 62 rfl lo 1 i0 .nilFunc 1 8 Tryz.underlying62 hi0 hz0 hz1 hz2 rfl (by decide) _ N _ rfl RL.out _ 1 [Value.func (.func k9) #[] caps] rfl SRC.out (by simp [Value.oneCell']) (by unfold maxLen; omega) (by omega) (by have := HLO.out; simp; omega) ?_; intro v9 w9 ho9 ha9; obtain ⟨D9, dc9, hv9⟩ := own_formM ho9; subst hv9; refine unstop ?_)
  refine Stop.go ?_
  have hrow : w9.ownsRow lo 1 1 (.slice D9 (N + 1) dc9) (ec ++ [Value.func (.func k9) #[] caps]).length (ec ++ [Value.func (.func k9) #[] caps]) := by
    rw [List.length_append, HN.out]
    exact ho9
  have key := H1.out.putE (e2 := ec ++ [Value.func (.func k9) #[] caps]) hrow ha9.out
  have KEY := Lib.hid key
  have hk2 : Blk w9 g 64 _ := H1.out.box.grown ha9.out.grown (fun e => box_neM H1.out.box H1.out.re (by decide) e.symm)
  have f9 := hk2.frozen 2
  obtain ⟨u9, p9⟩ : ∃ u, w9.cell? ⟨g, 2, none⟩ = some u := ⟨_, hk2.cell 2⟩
  clear ho9 ha9 key hk2 hrow SRC p0 RL
  go_wp2_with fail
  go_end0
  exact ⟨rfl, ⟨_, KEY.out.1⟩, HB1.out.trans (KEY.out.2)⟩
/-- A list is a list without its last and that one. -/
theorem popf_any (k9 : Nat) (caps : Array Value) (e2 : List Value) (f : Value) (hf : f = .func (.func k9) #[] caps) (hec : ec = e2 ++ [f]) (he : e2.length ≤ 3000) (h : Mk4 lo g w Fz vl vs ve vc l st ec cc) :
    Calls Tryz.prog 139 #[.pointer (some ⟨g, 2, none⟩)] w fun e w' => e = .returned f ∧ (∃ v', Mk4 lo g w' Fz vl vs v' vc l st e2 cc) ∧ Below lo w w' := by
  obtain ⟨k, hk⟩ : ∃ k, e2.length = k := ⟨_, rfl⟩
  have hel : ec.length = k + 1 := by rw [hec, List.length_append, hk]; rfl
  have hre := h.re
  rw [hel] at hre
  obtain ⟨q, cap, rfl, hcap, hq, hloq⟩ := own_posM hre (by omega)
  have hlo : lo ≤ w.heap.size := by have := h.low; have := h.box.lt; omega
  have p0 : w.cell? ⟨g, 2, none⟩ = some (.slice (some ⟨q, 0, none⟩) (k + 1) cap) := h.box.cell 2
  have c0 : w.cell? ⟨q, k, none⟩ = some f := by
    rw [hre.cellAt k (by omega), hec, List.getElem?_append_right (by omega), hk, Nat.sub_self]
    rfl
  have f0 := h.box.frozen 2
  have ho2 : w.ownsRow lo 1 1 (.slice (some ⟨q, 0, none⟩) k cap) k e2 := by
    refine ⟨by rw [hk, Nat.mul_one], ?_⟩
    rcases hre.2 with ⟨e1, h0⟩ | ⟨q2, cp, cur, e1, hlo2, hrow, hle, hm, hsz, ht⟩
    · omega
    · injection e1 with e1 e2' e3
      injection e1 with e1
      injection e1 with e1
      subst e1 e3
      refine .inr ⟨q, cap, cur, rfl, hlo2, hrow, by omega, hm, hsz, ?_⟩
      have h2 := congrArg (List.take (k * 1)) ht
      rw [List.take_take, show min (k * 1) ((k + 1) * 1) = k * 1 by omega, hec, List.take_append_of_le_length (by omega), List.take_of_length_le (l := e2) (by omega)] at h2
      exact h2
  have KEY : Hid (Mk4 lo g (w.setCell ⟨g, 2, none⟩ (.slice (some ⟨q, 0, none⟩) k cap)) Fz vl vs (.slice (some ⟨q, 0, none⟩) k cap) vc l st e2 cc ∧ Below lo w (w.setCell ⟨g, 2, none⟩ (.slice (some ⟨q, 0, none⟩) k cap))) := Lib.hid (by
    have hput := h.box.put 2 (.slice (some ⟨q, 0, none⟩) k cap)
    have key : ∀ {base size n : Nat} {e : TypeId} {u : Value} {xs : List Value}, w.ownsRow base e size u n xs → 64 ≠ e → (w.setCell ⟨g, 2, none⟩ (.slice (some ⟨q, 0, none⟩) k cap)).ownsRow base e size u n xs := fun hr hm => row_sameM hr (fun k hk => Below.heap_setCell w _ _ k (fun e => by
      have e : k = g := e
      subst e
      exact box_neM h.box hr hm hk))
    have h2 : w.ownsRow lo 1 1 (.slice (some ⟨q, 0, none⟩) k cap) e2.length e2 := by rw [hk]; exact ho2
    exact ⟨⟨by simpa using hput, key h.rl (by decide), key h.rs (by decide), key h2 (by decide), key h.rc (by decide), h.ap, fun p hp => by
      have hp0 := h.fz p hp
      exact ⟨(Below.heap_setCell w _ _ p.1 (fun e => hp0.2.2.1 e)).trans hp0.1, hp0.2⟩, h.low⟩, (Below.refl lo w).setCell (p := ⟨g, 2, none⟩) h.low _⟩)
  have i1 : (0 : Int) ≤ (k : Int) := by omega
  have i2 : (k : Int) < (k : Int) + 1 := by omega
  have i3 : k ≤ cap := by omega
  have i4 : (k : Int) ≤ (cap : Int) := by omega
  have wz : IntKind.i64.wrap ((k : Int) + 1 - 1) = (k : Int) := by rw [show (k : Int) + 1 - 1 = (k : Int) by omega]; exact IntWalk.i64_in _ (by omega)
  have wy : (k : Int) + 1 - 1 = (k : Int) := by omega
  have wk : IntKind.i64.wrap (k : Int) = (k : Int) := IntWalk.i64_in _ (by omega)
  clear h hre ho2 hec hel hk he hq hloq hlo
  subst hf
  go_enter Tryz.func139, Tryz.ntmps139
  go_wp2_with fail
  go_ret
  exact ⟨rfl, ⟨_, KEY.out.1⟩, KEY.out.2⟩
end
end Go.Proofs.YtofikgjoiidhmaaGreatDoor

namespace Go.Proofs.YtofikgjoiidhmaaGreatDoor
open Go.RowKit Go

/-- Two lists, element by element. -/
inductive Both {α β : Type} (R : α → β → Prop) : List α → List β → Prop
  | nil : Both R [] []
  | cons (x : α) (y : β) (xs : List α) (ys : List β) (h : R x y) (t : Both R xs ys) : Both R (x :: xs) (y :: ys)
theorem Both.len {α β : Type} {R : α → β → Prop} {xs : List α} {ys : List β} (h : Both R xs ys) : xs.length = ys.length := by
  induction h with
  | nil => rfl
  | cons x y xs ys h t ih => simp only [List.length_cons, ih]
theorem Both.mono {α β : Type} {R S : α → β → Prop} {xs : List α} {ys : List β} (h : Both R xs ys) (hs : ∀ x y, R x y → S x y) : Both S xs ys := by
  induction h with
  | nil => exact .nil
  | cons x y xs ys h t ih => exact .cons x y xs ys (hs x y h) ih
theorem Both.snoc {α β : Type} {R : α → β → Prop} {xs : List α} {ys : List β} (h : Both R xs ys) {x : α} {y : β} (hx : R x y) : Both R (xs ++ [x]) (ys ++ [y]) := by
  induction h with
  | nil => exact .cons x y [] [] hx .nil
  | cons a b xs ys h t ih => exact .cons a b _ _ h ih
theorem Both.last {α β : Type} {R : α → β → Prop} : ∀ {xs : List α} {ys : List β} {y : β}, Both R xs (ys ++ [y]) → ∃ xs2 x, xs = xs2 ++ [x] ∧ Both R xs2 ys ∧ R x y := by
  intro xs ys
  induction ys generalizing xs with
  | nil =>
    intro y h
    cases h with
    | cons x0 y0 xs0 ys0 h t => cases t; exact ⟨[], _, rfl, .nil, h⟩
  | cons b bs ih =>
    intro y h
    cases h with
    | cons x0 y0 xs0 ys0 h t =>
      obtain ⟨xs2, x, rfl, h2, h3⟩ := ih t
      exact ⟨_ :: xs2, x, rfl, .cons _ _ xs2 bs h h2, h3⟩
theorem Both.get {α β : Type} {R : α → β → Prop} {xs : List α} {ys : List β} (h : Both R xs ys) : ∀ {i : Nat} (hi : i < ys.length), ∃ x, xs[i]? = some x ∧ R x ys[i] := by
  induction h with
  | nil => intro i hi; simp at hi
  | cons x y xs ys h t ih =>
    intro i hi
    cases i with
    | zero => exact ⟨x, rfl, h⟩
    | succ i => exact ih (i := i) (by simpa using hi)
abbrev mBox (g : Nat) : Obj := .cells #[.pointer (some ⟨g, 0, none⟩)] 114
abbrev nBox (n : Int) : Obj := .cells #[.int .i64 n] 3
/-- What a closure that ends something is. -/
def EndIs (Fz : List (Nat × Obj)) (g : Nat) (v : Value) (c : Cl) : Prop :=
  match c with
  | .past a => ∃ bm ba, (bm, mBox g) ∈ Fz ∧ (ba, nBox a) ∈ Fz ∧ v = .func (.func 161) #[] #[.pointer (some ⟨bm, 0, none⟩), .pointer (some ⟨ba, 0, none⟩)]
  | .again a => ∃ bm ba, (bm, mBox g) ∈ Fz ∧ (ba, nBox a) ∈ Fz ∧ v = .func (.func 138) #[] #[.pointer (some ⟨bm, 0, none⟩), .pointer (some ⟨ba, 0, none⟩)]
/-- What a closure that fills the place of a definition is. -/
def CallIs (Fz : List (Nat × Obj)) (g : Nat) (v : Value) (c : Nat × Nat) : Prop :=
  ∃ bm bk ba, (bm, mBox g) ∈ Fz ∧ (bk, nBox c.2) ∈ Fz ∧ (ba, nBox c.1) ∈ Fz ∧ v = .func (.func 135) #[] #[.pointer (some ⟨bm, 0, none⟩), .pointer (some ⟨bk, 0, none⟩), .pointer (some ⟨ba, 0, none⟩)]
theorem EndIs.more {Fz Gz : List (Nat × Obj)} {g : Nat} {v : Value} {c : Cl} (h : EndIs Fz g v c) (hs : ∀ p ∈ Fz, p ∈ Gz) : EndIs Gz g v c := by
  cases c with
  | past a => obtain ⟨bm, ba, h1, h2, h3⟩ := h; exact ⟨bm, ba, hs _ h1, hs _ h2, h3⟩
  | again a => obtain ⟨bm, ba, h1, h2, h3⟩ := h; exact ⟨bm, ba, hs _ h1, hs _ h2, h3⟩
theorem CallIs.more {Fz Gz : List (Nat × Obj)} {g : Nat} {v : Value} {c : Nat × Nat} (h : CallIs Fz g v c) (hs : ∀ p ∈ Fz, p ∈ Gz) : CallIs Gz g v c := by
  obtain ⟨bm, bk, ba, h1, h2, h3, h4⟩ := h; exact ⟨bm, bk, ba, hs _ h1, hs _ h2, hs _ h3, h4⟩
/-- The maker as it stands: its list, what ends wait, what calls wait, its starts. -/
def MkAt (lo g : Nat) (w : World) (Fz : List (Nat × Obj)) (l : List (Int × Int)) (E : List Cl) (C : List (Nat × Nat)) (st : List Int) : Prop :=
  ∃ vl vs ve vc ec cc, Mk4 lo g w Fz vl vs ve vc l st ec cc ∧ Both (EndIs Fz g) ec E ∧ Both (CallIs Fz g) cc C
section
variable {lo g : Nat} {w : World} {Fz : List (Nat × Obj)} {l : List (Int × Int)} {E : List Cl} {C : List (Nat × Nat)} {st : List Int}
theorem MkAt.below {w2 : World} (h : MkAt lo g w Fz l E C st) (hb : Below w.heap.size w w2) : MkAt lo g w2 Fz l E C st := by
  obtain ⟨vl, vs, ve, vc, ec, cc, h1, h2, h3⟩ := h
  exact ⟨vl, vs, ve, vc, ec, cc, h1.below hb, h2, h3⟩
theorem MkAt.hold (h : MkAt lo g w Fz l E C st) (o : Obj) : MkAt lo g (w.alloc o) ((w.heap.size, o) :: Fz) l E C st := by
  obtain ⟨vl, vs, ve, vc, ec, cc, h1, h2, h3⟩ := h
  exact ⟨vl, vs, ve, vc, ec, cc, h1.hold o, h2.mono (fun _ _ h => h.more (fun p hp => List.mem_cons_of_mem _ hp)), h3.mono (fun _ _ h => h.more (fun p hp => List.mem_cons_of_mem _ hp))⟩
theorem MkAt.lows (h : MkAt lo g w Fz l E C st) : lo ≤ w.heap.size := by
  obtain ⟨vl, vs, ve, vc, ec, cc, h1, -⟩ := h
  have := h1.low
  have := h1.box.lt
  omega
theorem MkAt.cell (h : MkAt lo g w Fz l E C st) {b : Nat} {u : Value} {t : TypeId} (hb : (b, Obj.cells #[u] t) ∈ Fz) : w.cell? ⟨b, 0, none⟩ = some u ∧ b < w.heap.size := by
  obtain ⟨vl, vs, ve, vc, ec, cc, h1, -⟩ := h
  exact ⟨h1.cell hb, (Array.getElem?_eq_some_iff.1 (h1.fz _ hb).1).1⟩
theorem mstep_any (op n : Int) (hl : l.length ≤ 3000) (h : MkAt lo g w Fz l E C st) :
    Calls Tryz.prog 33 #[.pointer (some ⟨g, 0, none⟩), .int .i64 op, .int .i64 n] w fun e w' => e = .returned (.tuple #[]) ∧ MkAt lo g w' Fz (l ++ [(op, n)]) E C st ∧ Below lo w w' := by
  obtain ⟨vl, vs, ve, vc, ec, cc, h1, h2, h3⟩ := h
  refine (step_any op n hl h1).mono ?_
  rintro e w2 ⟨rfl, ⟨v9, h9⟩, hb⟩
  exact ⟨rfl, ⟨v9, vs, ve, vc, ec, cc, h9, h2, h3⟩, hb⟩
theorem mpush_any {v : Value} {c : Cl} (hc : EndIs Fz g v c) (he : E.length ≤ 3000) (h : MkAt lo g w Fz l E C st) :
    Calls Tryz.prog 137 #[.pointer (some ⟨g, 2, none⟩), v] w fun e w' => e = .returned (.tuple #[]) ∧ MkAt lo g w' Fz l (E ++ [c]) C st ∧ Below lo w w' := by
  obtain ⟨vl, vs, ve, vc, ec, cc, h1, h2, h3⟩ := h
  have hl := h2.len
  have key : ∀ (k9 : Nat) (caps : Array Value), v = .func (.func k9) #[] caps → Calls Tryz.prog 137 #[.pointer (some ⟨g, 2, none⟩), v] w fun e w' => e = .returned (.tuple #[]) ∧ MkAt lo g w' Fz l (E ++ [c]) C st ∧ Below lo w w' := fun k9 caps hv => by
    refine (pushf_any k9 caps v hv (by omega) h1).mono ?_
    rintro e w2 ⟨rfl, ⟨v9, h9⟩, hb⟩
    exact ⟨rfl, ⟨vl, vs, v9, vc, ec ++ [v], cc, h9, h2.snoc hc, h3⟩, hb⟩
  cases c with
  | past a => obtain ⟨bm, ba, -, -, hv⟩ := hc; exact key _ _ hv
  | again a => obtain ⟨bm, ba, -, -, hv⟩ := hc; exact key _ _ hv
theorem mpop_any {c : Cl} (he : E.length ≤ 3000) (h : MkAt lo g w Fz l (E ++ [c]) C st) :
    Calls Tryz.prog 139 #[.pointer (some ⟨g, 2, none⟩)] w fun e w' => ∃ v, e = .returned v ∧ EndIs Fz g v c ∧ MkAt lo g w' Fz l E C st ∧ Below lo w w' := by
  obtain ⟨vl, vs, ve, vc, ec, cc, h1, h2, h3⟩ := h
  obtain ⟨e2, x, rfl, h4, h5⟩ := h2.last
  have hl := h4.len
  have key : ∀ (k9 : Nat) (caps : Array Value), x = .func (.func k9) #[] caps → Calls Tryz.prog 139 #[.pointer (some ⟨g, 2, none⟩)] w fun e w' => ∃ v, e = .returned v ∧ EndIs Fz g v c ∧ MkAt lo g w' Fz l E C st ∧ Below lo w w' := fun k9 caps hv => by
    refine (popf_any k9 caps e2 x hv rfl (by omega) h1).mono ?_
    rintro e w2 ⟨rfl, ⟨v9, h9⟩, hb⟩
    exact ⟨x, rfl, h5, ⟨vl, vs, v9, vc, e2, cc, h9, h4, h3⟩, hb⟩
  cases c with
  | past a => obtain ⟨bm, ba, -, -, hv⟩ := h5; exact key _ _ hv
  | again a => obtain ⟨bm, ba, -, -, hv⟩ := h5; exact key _ _ hv
set_option maxRecDepth 100000 in
set_option maxHeartbeats 2000000 in
theorem past_any (op : Int) (hl : l.length ≤ 3000) (he : E.length ≤ 3000) (h : MkAt lo g w Fz l E C st) :
    Calls Tryz.prog 136 #[.pointer (some ⟨g, 0, none⟩), .int .i64 op] w fun e w' => e = .returned (.tuple #[]) ∧ (∃ Gz, (∀ p ∈ Fz, p ∈ Gz) ∧ MkAt lo g w' Gz (l ++ [(op, 0)]) (E ++ [.past l.length]) C st) ∧ Below lo w w' := by
  obtain ⟨A, n, cap, hA, hn, p0⟩ : ∃ A n cap, w.cell? ⟨g, 0, none⟩ = some (.slice A n cap) ∧ n = l.length ∧ g < w.heap.size := by
    obtain ⟨vl, vs, ve, vc, ec, cc, h1, -⟩ := h
    obtain ⟨A, cap, rfl⟩ := own_formM h1.rl
    exact ⟨A, _, cap, h1.box.cell 0, rfl, h1.box.lt⟩
  subst hn
  have hlo := h.lows
  have h2 := (h.hold (mBox g)).hold (nBox (l.length : Int))
  rw [World.size_alloc] at h2
  have hm1 : (w.heap.size, mBox g) ∈ (w.heap.size + 1, nBox (l.length : Int)) :: (w.heap.size, mBox g) :: Fz := by simp
  have hm2 : (w.heap.size + 1, nBox (l.length : Int)) ∈ (w.heap.size + 1, nBox (l.length : Int)) :: (w.heap.size, mBox g) :: Fz := by simp
  have hm3 : ∀ p ∈ Fz, p ∈ (w.heap.size + 1, nBox (l.length : Int)) :: (w.heap.size, mBox g) :: Fz := fun p hp => List.mem_cons_of_mem _ (List.mem_cons_of_mem _ hp)
  have hb2 : Below lo w ((w.alloc (mBox g)).alloc (nBox (l.length : Int))) := ((Below.refl lo w).alloc hlo _).alloc (by rw [World.size_alloc]; omega) _
  have hce : EndIs ((w.heap.size + 1, nBox (l.length : Int)) :: (w.heap.size, mBox g) :: Fz) g (.func (.func 161) #[] #[.pointer (some ⟨w.heap.size, 0, none⟩), .pointer (some ⟨w.heap.size + 1, 0, none⟩)]) (.past l.length) := ⟨_, _, hm1, hm2, rfl⟩
  have HLL : Hid ((l ++ [(op, (0 : Int))]).length = l.length + 1) := Lib.hid (by simp)
  obtain ⟨Gz, hGz⟩ : ∃ Gz, (w.heap.size + 1, nBox (l.length : Int)) :: (w.heap.size, mBox g) :: Fz = Gz := ⟨_, rfl⟩
  rw [hGz] at h2 hm1 hm2 hm3 hce
  have H2 := Lib.hid h2
  have HS := Lib.hid (mstep_any op 0 hl h2)
  have HM1 := Lib.hid hm1
  have HM3 := Lib.hid hm3
  have HCE := Lib.hid hce
  have HB2 := Lib.hid hb2
  have HE := Lib.hid he
  obtain ⟨L2, hL2⟩ : ∃ L2, l ++ [(op, (0 : Int))] = L2 := ⟨_, rfl⟩
  rw [hL2] at HS ⊢
  obtain ⟨N, hN⟩ : ∃ N, l.length = N := ⟨_, rfl⟩
  rw [hN] at hA HS HCE HB2 ⊢
  clear h h2 hm1 hm2 hm3 hce hGz hlo hb2 H2 HLL hL2 hN he
  go_enter Tryz.func136, Tryz.ntmps136
  go_wp2_with fail
  refine HS.out.mono ?_
  rintro e w3 ⟨rfl, h3, hb3⟩
  have HP := Lib.hid (mpush_any HCE.out HE.out h3)
  have HB3 := Lib.hid (HB2.out.trans hb3)
  obtain ⟨q0, lz⟩ := h3.cell HM1.out
  clear h3 hb3 HS HB2
  go_wp2_with fail
  refine HP.out.mono ?_
  rintro e w4 ⟨rfl, h4, hb4⟩
  have H4 := Lib.hid h4
  have HB4 := Lib.hid (HB3.out.trans hb4)
  clear h4 hb4 HP HB3 q0
  go_wp2_with fail
  go_end0
  exact ⟨rfl, ⟨Gz, HM3.out, H4.out⟩, HB4.out⟩
set_option maxRecDepth 100000 in
set_option maxHeartbeats 4000000 in
theorem toStart_any (op : Int) (k : Nat) (hl : l.length ≤ 3000) (hc : C.length ≤ 3000) (h : MkAt lo g w Fz l E C st) :
    Calls Tryz.prog 75 #[.pointer (some ⟨g, 0, none⟩), .int .i64 op, .int .i64 (k : Int)] w fun e w' => e = .returned (.tuple #[]) ∧ (∃ Gz, (∀ p ∈ Fz, p ∈ Gz) ∧ MkAt lo g w' Gz (l ++ [(op, 0)]) E (C ++ [(l.length, k)]) st) ∧ Below lo w w' := by
  obtain ⟨A, n, cap, hA, hn, p0⟩ : ∃ A n cap, w.cell? ⟨g, 0, none⟩ = some (.slice A n cap) ∧ n = l.length ∧ g < w.heap.size := by
    obtain ⟨vl, vs, ve, vc, ec, cc, h1, -⟩ := h
    obtain ⟨A, cap, rfl⟩ := own_formM h1.rl
    exact ⟨A, _, cap, h1.box.cell 0, rfl, h1.box.lt⟩
  subst hn
  have hlo := h.lows
  have h2 := ((h.hold (mBox g)).hold (nBox (k : Int))).hold (nBox (l.length : Int))
  rw [World.size_alloc, World.size_alloc] at h2
  have hm1 : (w.heap.size, mBox g) ∈ (w.heap.size + 1 + 1, nBox (l.length : Int)) :: (w.heap.size + 1, nBox (k : Int)) :: (w.heap.size, mBox g) :: Fz := by simp
  have hm3 : ∀ p ∈ Fz, p ∈ (w.heap.size + 1 + 1, nBox (l.length : Int)) :: (w.heap.size + 1, nBox (k : Int)) :: (w.heap.size, mBox g) :: Fz := fun p hp => List.mem_cons_of_mem _ (List.mem_cons_of_mem _ (List.mem_cons_of_mem _ hp))
  have hb2 : Below lo w (((w.alloc (mBox g)).alloc (nBox (k : Int))).alloc (nBox (l.length : Int))) := (((Below.refl lo w).alloc hlo _).alloc (by rw [World.size_alloc]; omega) _).alloc (by rw [World.size_alloc, World.size_alloc]; omega) _
  have hce : CallIs ((w.heap.size + 1 + 1, nBox (l.length : Int)) :: (w.heap.size + 1, nBox (k : Int)) :: (w.heap.size, mBox g) :: Fz) g (.func (.func 135) #[] #[.pointer (some ⟨w.heap.size, 0, none⟩), .pointer (some ⟨w.heap.size + 1, 0, none⟩), .pointer (some ⟨w.heap.size + 1 + 1, 0, none⟩)]) (l.length, k) := ⟨_, _, _, hm1, by simp, by simp, rfl⟩
  obtain ⟨Gz, hGz⟩ : ∃ Gz, (w.heap.size + 1 + 1, nBox (l.length : Int)) :: (w.heap.size + 1, nBox (k : Int)) :: (w.heap.size, mBox g) :: Fz = Gz := ⟨_, rfl⟩
  rw [hGz] at h2 hm1 hm3 hce
  have HS := Lib.hid (mstep_any op 0 hl h2)
  have HM1 := Lib.hid hm1
  have HM3 := Lib.hid hm3
  have HCE := Lib.hid hce
  have HB2 := Lib.hid hb2
  have HCL := Lib.hid hc
  obtain ⟨L2, hL2⟩ : ∃ L2, l ++ [(op, (0 : Int))] = L2 := ⟨_, rfl⟩
  rw [hL2] at HS ⊢
  obtain ⟨N, hN⟩ : ∃ N, l.length = N := ⟨_, rfl⟩
  rw [hN] at hA HS HCE HB2 ⊢
  obtain ⟨fv, hfv⟩ : ∃ fv, Value.func (.func 135) #[] #[.pointer (some ⟨w.heap.size, 0, none⟩), .pointer (some ⟨w.heap.size + 1, 0, none⟩), .pointer (some ⟨w.heap.size + 1 + 1, 0, none⟩)] = fv := ⟨_, rfl⟩
  rw [hfv] at HCE
  have HFV := Lib.hid hfv
  obtain ⟨i0, hi0, hz0, hz1, hz2⟩ := info_parts infoF
  clear h h2 hm1 hm3 hce hGz hlo hb2 hL2 hN hc hfv
  go_enter Tryz.func75, Tryz.ntmps75
  go_wp2_with fail
  refine HS.out.mono ?_
  rintro e w3 ⟨rfl, h3, hb3⟩
  obtain ⟨q0, lz⟩ := h3.cell HM1.out
  obtain ⟨vl, vs, ve, vc, ec, cc, h4, h5, h6⟩ := h3
  obtain ⟨A3, cap3, rfl⟩ := own_formM h4.rc
  have hcl := h6.len
  have q3 : w3.cell? ⟨g, 3, none⟩ = some (.slice A3 cc.length cap3) := h4.box.cell 3
  have lg := h4.box.lt
  have H4 := Lib.hid h4
  have H5 := Lib.hid h5
  have H6 := Lib.hid h6
  have HB3 := Lib.hid (HB2.out.trans hb3)
  have hc9 : cc.length ≤ 3000 := by have := HCL.out; omega
  obtain ⟨M, hM⟩ : ∃ M, cc.length = M := ⟨_, rfl⟩
  have HM := Lib.hid hM
  rw [hM] at q3 hc9
  clear h4 h5 h6 hb3 HS HB2 hcl hM
  obtain ⟨W, hW⟩ : ∃ W, W = (w3.alloc (.cells #[fv] 1)).drew := ⟨_, rfl⟩
  have hb9 : Below w3.heap.size w3 W := by rw [hW]; exact (below_alloc1 w3 _).drew
  have HB9 := Lib.hid (hb9.mono (show lo ≤ w3.heap.size by have := H4.out.low; omega))
  have H9 := Lib.hid (H4.out.below hb9)
  have SRC : Hid (SrcAt W 1 (.slice (some ⟨w3.heap.size, 0, none⟩) 1 1) 1 [fv]) := Lib.hid (by rw [hW]; exact src_fn w3 fv)
  have RC9 : Hid (W.ownsRow lo 1 1 (.slice A3 M cap3) M cc) := Lib.hid (by have h := H9.out.rc; rw [HM.out] at h; exact h)
  have KB9 := Lib.hid H9.out.box
  rw [HM.out] at KB9
  have HNE : Hid ((Value.slice A3 M cap3).ownBlock ≠ some g) := Lib.hid (box_neM KB9.out RC9.out (by decide))
  have HSW : Hid (lo ≤ W.heap.size) := Lib.hid (Nat.le_trans (by have := H4.out.low; omega) hb9.size)
  have HFO : Hid (∀ u ∈ [fv], u.oneCell' = true) := Lib.hid (by rw [← HFV.out]; simp [Value.oneCell'])
  have f1 : w3.frozen? ⟨g, 3, none⟩ = false := H4.out.box.frozen 3
  have e1 : M + 1 ≤ maxLen := by unfold maxLen; omega
  have e2 : (M + 1) * 8 ≤ 140737488355328 := by omega
  have KQ : Hid (∀ w5, W.grownBy w5 (Value.slice A3 M cap3).ownBlock → w5.cell? ⟨w.heap.size, 0, none⟩ = some (.pointer (some ⟨g, 0, none⟩)) ∧ w.heap.size < w5.heap.size) := Lib.hid (fun w5 hg5 => by
    have hz := H9.out.fz _ HM1.out
    rw [HM.out] at hz
    have hlt := (Array.getElem?_eq_some_iff.1 hz.1).1
    have hh := (hg5.block w.heap.size hlt (fun e => hz.2.2.2.2.2.2 e.symm)).trans hz.1
    exact ⟨by rw [cell_of_row w5 w.heap.size 0 _ _ (0, 0) hh]; rfl, Nat.lt_of_lt_of_le hlt hg5.size⟩)
  have HW := Lib.hid hW
  clear hW hb9
  go_wp2_with fail
  go_region_law (rw [HFV.out, ← HW.out]; refine step_append_src rfl _ _ 61 rfl lo 1 i0 .nilFunc 1 8 Tryz.underlying61 hi0 hz0 hz1 hz2 rfl (by decide) (.slice A3 M cap3) M cc rfl RC9.out (.slice (some ⟨w3.heap.size, 0, none⟩) 1 1) 1 [fv] rfl SRC.out HFO.out e1 e2 HSW.out ?_; intro v' w5 hown halt; obtain ⟨D, dc, hv⟩ := own_formM hown; subst hv; have HO5 := Lib.hid hown; have KB5 := Lib.hid (KB9.out.grown halt.out.grown (fun e => HNE.out e.symm)); clear hown; have hkq := KQ.out _ halt.out.grown; clear q3 f1 q0 lz; obtain ⟨q0, lz⟩ := hkq; have hg2 := KB5.out.lt; have q3 : w5.cell? ⟨g, 3, none⟩ = some (.slice A3 M cap3) := KB5.out.cell 3; have f1 := KB5.out.frozen 3)
  all_goals
    have KEY := Lib.hid (H9.out.putC (c2 := cc ++ [fv]) (w2 := w5) (v' := .slice D (M + 1) dc) (n := M) (m := 1) (by rw [List.length_append, HM.out]; exact HO5.out) (by have := halt.out; rw [HM.out]; exact this))
    have HE5 : Hid (MkAt lo g (w5.setCell ⟨g, 3, none⟩ (.slice D (M + 1) dc)) Gz L2 E (C ++ [(N, k)]) st ∧ Below lo w (w5.setCell ⟨g, 3, none⟩ (.slice D (M + 1) dc))) := Lib.hid ⟨⟨_, _, _, _, _, _, KEY.out.1, H5.out, H6.out.snoc HCE.out⟩, HB3.out.trans (HB9.out.trans KEY.out.2)⟩
    clear KEY
    go_wp2_with fail
    go_end0
    exact ⟨rfl, ⟨Gz, HM3.out, HE5.out.1⟩, HE5.out.2⟩
end
end Go.Proofs.YtofikgjoiidhmaaGreatDoor
