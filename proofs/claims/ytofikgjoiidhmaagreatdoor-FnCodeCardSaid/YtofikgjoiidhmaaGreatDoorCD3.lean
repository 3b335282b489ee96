/-
  Lists of trees in memory: ones that can be read, ones that are a call's own.
  The table of the built-in words.
  PrimName of both sides.
  Lists of slots (a kind and a number each): a copy of one, whether two are alike, the marks that are laid into one, whether they lie there.
  Lists of slots: whether two are alike, a copy of one, the marks that are laid into one, whether they lie there.
  The stack of ops: push and pop.
  Lists of trees: whether two are alike, the marks that are laid into one, whether they lie there.
  Lists of signed numbers (int): a copy of one, whether two are alike, the marks that are laid into one, whether they lie there.
-/
import Derived.Test.YtofikgjoiidhmaaGreatDoorCD2
import Derived.Test.YtofikgjoiidhmaaGreatDoorCD1
import Derived.Handy
import Derived.Laws.Tables
import Derived.Deep.WholeRow
import Derived.Deep.RegionHeld3
import Derived.RegionTactic
import Derived.ChangeAlike
import Derived.Deep.RegionLaw
import Derived.IntWalk
namespace Go.Proofs.YtofikgjoiidhmaaGreatDoor
open Go.RowKit Go

/-- The cells of a list of trees, whose kids' lists are f's values. -/
def trv (f : Nat → Value) : Nat → List Tr → List Value
  | _, [] => []
  | i, t :: r => .int .i64 t.k :: .int .i32 t.n :: f i :: trv f (i + 1) r
theorem trv_len (f : Nat → Value) (i : Nat) (xs : List Tr) : (trv f i xs).length = xs.length * 3 := by
  induction xs generalizing i with
  | nil => rfl
  | cons s r ih => simp only [trv, List.length_cons, ih]; omega
theorem trv_app (f : Nat → Value) (i : Nat) (xs ys : List Tr) : trv f i (xs ++ ys) = trv f i xs ++ trv f (i + xs.length) ys := by
  induction xs generalizing i with
  | nil => simp [trv]
  | cons s r ih => simp only [trv, List.cons_append, List.length_cons, ih]; rw [show i + 1 + r.length = i + (r.length + 1) by omega]
theorem trv_congr {f f2 : Nat → Value} {i : Nat} {xs : List Tr} (h : ∀ j, j < xs.length → f (i + j) = f2 (i + j)) : trv f i xs = trv f2 i xs := by
  induction xs generalizing i with
  | nil => rfl
  | cons s r ih =>
    have h0 := h 0 (by simp)
    simp only [Nat.add_zero] at h0
    simp only [trv, h0]
    rw [ih (fun j hj => by have := h (j + 1) (by simpa using hj); rwa [show i + (j + 1) = i + 1 + j by omega] at this)]
theorem trv_get {f : Nat → Value} {i0 : Nat} {xs : List Tr} {i : Nat} (h : i < xs.length) : (trv f i0 xs)[i * 3]? = some (.int .i64 xs[i].k) ∧ (trv f i0 xs)[i * 3 + 1]? = some (.int .i32 xs[i].n) ∧ (trv f i0 xs)[i * 3 + 2]? = some (f (i0 + i)) := by
  induction xs generalizing i i0 with
  | nil => simp at h
  | cons s r ih =>
    cases i with
    | zero => simp [trv]
    | succ i =>
      have := ih (i0 := i0 + 1) (i := i) (by simpa using h)
      rw [show (i + 1) * 3 = i * 3 + 3 by omega, show i * 3 + 3 + 1 = i * 3 + 1 + 3 by omega, show i * 3 + 3 + 2 = i * 3 + 2 + 3 by omega]
      rw [show i0 + 1 + i = i0 + (i + 1) by omega] at this
      simpa [trv] using this
theorem trv_one {f : Nat → Value} {i : Nat} {xs : List Tr} (hf : ∀ j, (f j).oneCell' = true) : ∀ u ∈ trv f i xs, u.oneCell' = true := by
  induction xs generalizing i with
  | nil => intro u hu; cases hu
  | cons s r ih =>
    intro u hu
    simp only [trv, List.mem_cons] at hu
    rcases hu with rfl | rfl | rfl | hu
    · rfl
    · rfl
    · exact hf i
    · exact ih u hu
/-- A list of trees that can be read. -/
inductive RdT (w : World) : Value → List Tr → Prop
  | mk (A : Option Addr) (cap : Nat) (xs : List Tr) (f : Nat → Value)
    (h1 : ∀ i (h : i < xs.length), ∃ a, A = some a ∧ a.block < w.heap.size ∧ w.cell? (a.add (i * 3)) = some (.int .i64 xs[i].k) ∧ w.cell? ((a.add (i * 3)).add 1) = some (.int .i32 xs[i].n) ∧ w.cell? ((a.add (i * 3)).add 2) = some (f i))
    (h2 : ∀ i (h : i < xs.length), RdT w (f i) xs[i].kids) : RdT w (.slice A xs.length cap) xs
theorem RdT.form {w : World} {v : Value} {xs : List Tr} (h : RdT w v xs) : ∃ A cap, v = .slice A xs.length cap := by
  cases h with
  | mk A cap xs f h1 h2 => exact ⟨A, cap, rfl⟩
theorem RdT.stay {w w' : World} {v : Value} {xs : List Tr} (h : RdT w v xs) (hb : Below w.heap.size w w') : RdT w' v xs := by
  induction h with
  | mk A cap xs f h1 h2 ih =>
    refine .mk A cap xs f (fun i hi => ?_) ih
    obtain ⟨a, rfl, e2, e3, e4, e5⟩ := h1 i hi
    exact ⟨a, rfl, by have := hb.size; omega, (hb.cell (by rw [addr_addb]; exact e2)).trans e3, (hb.cell (by rw [addr_addb, addr_addb]; exact e2)).trans e4, (hb.cell (by rw [addr_addb, addr_addb]; exact e2)).trans e5⟩
theorem RdT.nil (w : World) (A : Option Addr) (cap : Nat) : RdT w (.slice A 0 cap) [] := .mk A cap [] (fun _ => .slice none 0 0) (fun i h => absurd h (by simp)) (fun i h => absurd h (by simp))
/-- One tree of a list, as the walk spells its cells. -/
theorem RdT.item {w : World} {A : Option Addr} {n cap : Nat} {xs : List Tr} (h : RdT w (.slice A n cap) xs) {i : Nat} (hi : i < xs.length) : ∃ a B m bc, A = some a ∧ a.block < w.heap.size ∧ w.cell? (a.add (i * 3)) = some (.int .i64 xs[i].k) ∧ w.cell? ⟨(a.add (i * 3)).block, (a.add (i * 3)).off + 1, none⟩ = some (.int .i32 xs[i].n) ∧ w.cell? ⟨(a.add (i * 3)).block, (a.add (i * 3)).off + 2, none⟩ = some (.slice B m bc) ∧ RdT w (.slice B m bc) xs[i].kids ∧ m = xs[i].kids.length := by
  generalize hv : Value.slice A n cap = v at h
  cases h with
  | mk A3 c3 xs f h1 h2 =>
    injection hv with e1 e2 e3
    subst e1
    obtain ⟨a, rfl, hb, q0, q1, q2⟩ := h1 i hi
    have r := h2 i hi
    obtain ⟨B, bc, hf⟩ := r.form
    rw [hf] at q2 r
    exact ⟨a, B, _, bc, rfl, hb, q0, q1, q2, r, rfl⟩
theorem RdT.len {w : World} {A : Option Addr} {n cap : Nat} {xs : List Tr} (h : RdT w (.slice A n cap) xs) : n = xs.length := by
  obtain ⟨A2, c2, e⟩ := h.form
  injection e
/-- A list of trees that is a call's own: rows above base, no two of them one; all their blocks are in S. -/
inductive OwnT (w : World) (base : Nat) : Value → List Tr → (Nat → Prop) → Prop
  | mk (v : Value) (xs : List Tr) (S : Nat → Prop) (f : Nat → Value) (bs : Nat → Nat → Prop)
    (h1 : w.ownsRow base 172 3 v xs.length (trv f 0 xs))
    (h2 : ∀ i (h : i < xs.length), OwnT w base (f i) xs[i].kids (bs i))
    (d1 : ∀ g, v.ownBlock = some g → ∀ i, i < xs.length → ¬ bs i g)
    (d2 : ∀ i j g, i < xs.length → j < xs.length → i ≠ j → bs i g → ¬ bs j g)
    (hS : ∀ g, (v.ownBlock = some g ∨ ∃ i, i < xs.length ∧ bs i g) → S g)
    (hb : ∀ g, S g → base ≤ g ∧ g < w.heap.size) : OwnT w base v xs S
/-- The parts of a list of trees that is a call's own. -/
structure PartsT (w : World) (base : Nat) (v : Value) (xs : List Tr) (S : Nat → Prop) (f : Nat → Value) (bs : Nat → Nat → Prop) : Prop where
  row : w.ownsRow base 172 3 v xs.length (trv f 0 xs)
  kids : ∀ i (h : i < xs.length), OwnT w base (f i) xs[i].kids (bs i)
  d1 : ∀ g, v.ownBlock = some g → ∀ i, i < xs.length → ¬ bs i g
  d2 : ∀ i j g, i < xs.length → j < xs.length → i ≠ j → bs i g → ¬ bs j g
  sub : ∀ g, (v.ownBlock = some g ∨ ∃ i, i < xs.length ∧ bs i g) → S g
  bound : ∀ g, S g → base ≤ g ∧ g < w.heap.size
theorem OwnT.parts {w : World} {base : Nat} {v : Value} {xs : List Tr} {S : Nat → Prop} (h : OwnT w base v xs S) : ∃ f bs, PartsT w base v xs S f bs := by
  cases h with
  | mk v xs S f bs h1 h2 d1 d2 hS hb => exact ⟨f, bs, h1, h2, d1, d2, hS, hb⟩
theorem PartsT.own {w : World} {base : Nat} {v : Value} {xs : List Tr} {S : Nat → Prop} {f : Nat → Value} {bs : Nat → Nat → Prop} (h : PartsT w base v xs S f bs) : OwnT w base v xs S := .mk v xs S f bs h.row h.kids h.d1 h.d2 h.sub h.bound
theorem row_same {w w' : World} {base size : Nat} {e : TypeId} {v : Value} {n : Nat} {xs : List Value} (h : w.ownsRow base e size v n xs) (hk : ∀ g, v.ownBlock = some g → w'.heap[g]? = w.heap[g]?) : w'.ownsRow base e size v n xs := by
  refine ⟨h.1, ?_⟩
  rcases h.2 with hn | ⟨g, cap, cur, rfl, hb, hgg, rest⟩
  · exact .inl hn
  · refine .inr ⟨g, cap, cur, rfl, hb, ?_, rest⟩
    rw [hk g (by simp [Value.ownBlock])]
    exact hgg
theorem OwnT.kept {w w' : World} {base : Nat} {v : Value} {xs : List Tr} {S : Nat → Prop} (h : OwnT w base v xs S) (hz : w.heap.size ≤ w'.heap.size) (hk : ∀ g, S g → w'.heap[g]? = w.heap[g]?) : OwnT w' base v xs S := by
  induction h with
  | mk v xs S f bs h1 h2 d1 d2 hS hb ih =>
    exact .mk v xs S f bs (row_same h1 fun g hg => hk g (hS g (.inl hg))) (fun i hi => ih i hi (fun g hg => hk g (hS g (.inr ⟨i, hi, hg⟩)))) d1 d2 hS (fun g hg => ⟨(hb g hg).1, Nat.lt_of_lt_of_le (hb g hg).2 hz⟩)
theorem OwnT.bound {w : World} {base : Nat} {v : Value} {xs : List Tr} {S : Nat → Prop} (h : OwnT w base v xs S) : ∀ g, S g → base ≤ g ∧ g < w.heap.size := by
  obtain ⟨f, bs, p⟩ := h.parts
  exact p.bound
theorem OwnT.stay {w w' : World} {base : Nat} {v : Value} {xs : List Tr} {S : Nat → Prop} (h : OwnT w base v xs S) (hb : Below w.heap.size w w') : OwnT w' base v xs S := h.kept hb.size (fun g hg => hb.block g (h.bound g hg).2)
theorem OwnT.mono {w : World} {base b2 : Nat} {v : Value} {xs : List Tr} {S : Nat → Prop} (h : OwnT w base v xs S) (hb : b2 ≤ base) : OwnT w b2 v xs S := by
  induction h with
  | mk v xs S f bs h1 h2 d1 d2 hS hb2 ih => exact .mk v xs S f bs (h1.mono hb) ih d1 d2 hS (fun g hg => ⟨Nat.le_trans hb (hb2 g hg).1, (hb2 g hg).2⟩)
theorem OwnT.nil (w : World) (base : Nat) : OwnT w base (.slice none 0 0) [] (fun _ => False) :=
  .mk _ [] _ (fun _ => .slice none 0 0) (fun _ _ => False) (World.ownsRow_nil _ _ _ _) (fun i h => absurd h (by simp)) (fun g h => by simp [Value.ownBlock] at h) (fun i j g h => absurd h (by simp)) (fun g h => by
    rcases h with h | ⟨i, hi, -⟩
    · simp [Value.ownBlock] at h
    · simp at hi) (fun g h => h.elim)
/-- Room for none. -/
theorem OwnT.empty {w : World} {base : Nat} {v : Value} (h : w.ownsRow base 172 3 v 0 []) : OwnT w base v [] (fun g => v.ownBlock = some g) :=
  .mk _ [] _ (fun _ => .slice none 0 0) (fun _ _ => False) h (fun i h => absurd h (by simp)) (fun g hg i h => absurd h (by simp)) (fun i j g h => absurd h (by simp)) (fun g hg => by
    rcases hg with hg | ⟨i, hi, -⟩
    · exact hg
    · simp at hi) (fun g hg => World.ownsRow.lt h g hg)
theorem OwnT.rd {w : World} {base : Nat} {v : Value} {xs : List Tr} {S : Nat → Prop} (h : OwnT w base v xs S) : RdT w v xs := by
  induction h with
  | mk v xs S f bs h1 h2 d1 d2 hS hb ih =>
    rcases h1.2 with ⟨rfl, h0⟩ | ⟨g, cap, cur, rfl, hbg, hg, hn, hm, hsz, ht⟩
    · obtain rfl : xs = [] := List.eq_nil_of_length_eq_zero h0
      exact RdT.nil w none 0
    · refine .mk (some ⟨g, 0, none⟩) cap xs f (fun i hi => ⟨⟨g, 0, none⟩, rfl, (Array.getElem?_eq_some_iff.1 hg).1, ?_, ?_, ?_⟩) ih
      all_goals
        have h3 := trv_get (f := f) (i0 := 0) hi
        rw [Nat.zero_add] at h3
      · rw [addr_lit, Nat.zero_add, cell_of_row w g (i * 3) cur _ (0, 0) hg]
        have e := congrArg (·[i * 3]?) ht
        simp only [h3.1, List.getElem?_take] at e
        rw [if_pos (by omega)] at e
        simpa using e
      · rw [addr_lit, Nat.zero_add, addr_lit, cell_of_row w g (i * 3 + 1) cur _ (0, 0) hg]
        have e := congrArg (·[i * 3 + 1]?) ht
        simp only [h3.2.1, List.getElem?_take] at e
        rw [if_pos (by omega)] at e
        simpa using e
      · rw [addr_lit, Nat.zero_add, addr_lit, cell_of_row w g (i * 3 + 2) cur _ (0, 0) hg]
        have e := congrArg (·[i * 3 + 2]?) ht
        simp only [h3.2.2, List.getElem?_take] at e
        rw [if_pos (by omega)] at e
        simpa using e
/-- One more tree behind a list, whose row lies where it lay or in new memory. -/
theorem PartsT.push {W w' : World} {base : Nat} {v v' kv : Value} {xs kids : List Tr} {S S2 : Nat → Prop} {f : Nat → Value} {bs : Nat → Nat → Prop} {k n : Int} (h : PartsT W base v xs S f bs) (hk : OwnT W base kv kids S2) (hd : ∀ g, S g → ¬ S2 g)
    (ho : w'.ownsRow base 172 3 v' (xs.length + 1) (trv f 0 xs ++ [.int .i64 k, .int .i32 n, kv])) (ha : AppAlt W w' v v' xs.length 1) : OwnT w' base v' (xs ++ [.mk k n kids]) (fun g => S g ∨ S2 g ∨ v'.ownBlock = some g) := by
  have hgr := ha.grown
  have hsame : ∀ g, v.ownBlock ≠ some g → g < W.heap.size → w'.heap[g]? = W.heap[g]? := fun g hg hlt => hgr.block g hlt (fun e => hg e.symm)
  have hz := hgr.size
  have hv' : ∀ g, v'.ownBlock = some g → v.ownBlock = some g ∨ W.heap.size ≤ g := fun g hg => by
    rcases ha with ⟨g2, cap, rfl, -, rfl, -⟩ | ⟨-, h2⟩
    · left; simpa [Value.ownBlock] using hg
    · right; exact h2 g hg
  have hbs : ∀ i, i < xs.length → ∀ g, bs i g → S g := fun i hi g hg => h.sub g (.inr ⟨i, hi, hg⟩)
  refine .mk v' _ _ (fun i => if i < xs.length then f i else kv) (fun i => if i < xs.length then bs i else S2) ?_ (fun i hi => ?_) (fun g hg i hi => ?_) (fun i j g hi hj hij hgi => ?_) (fun g hg => ?_) (fun g hg => ?_)
  · have e : trv (fun i => if i < xs.length then f i else kv) 0 (xs ++ [.mk k n kids]) = trv f 0 xs ++ [.int .i64 k, .int .i32 n, kv] := by
      rw [trv_app, Nat.zero_add]
      simp only [trv, Nat.lt_irrefl, if_false, Tr.k, Tr.n]
      rw [trv_congr (f2 := f) (fun j hj => by rw [Nat.zero_add, if_pos hj])]
    rw [e, List.length_append]
    exact ho
  · by_cases hl : i < xs.length
    · simp only [if_pos hl, List.getElem_append_left hl]
      exact (h.kids i hl).kept hz (fun g hg => hsame g (fun e => h.d1 g e i hl hg) (h.bound g (hbs i hl g hg)).2)
    · obtain rfl : i = xs.length := by simp at hi; omega
      simp only [Nat.lt_irrefl, if_false, List.getElem_append_right (Nat.le_refl _), Nat.sub_self, List.getElem_cons_zero, Tr.kids]
      exact hk.kept hz (fun g hg => hsame g (fun e => hd g (h.sub g (.inl e)) hg) (hk.bound g hg).2)
  · by_cases hl : i < xs.length
    · simp only [if_pos hl]
      intro hgi
      rcases hv' g hg with e | e
      · exact h.d1 g e i hl hgi
      · have := (h.bound g (hbs i hl g hgi)).2; omega
    · simp only [if_neg hl]
      intro hgi
      rcases hv' g hg with e | e
      · exact hd g (h.sub g (.inl e)) hgi
      · have := (hk.bound g hgi).2; omega
  · simp only [List.length_append, List.length_cons, List.length_nil] at hi hj
    by_cases hl : i < xs.length
    · simp only [if_pos hl] at hgi
      by_cases hl2 : j < xs.length
      · simp only [if_pos hl2]; exact h.d2 i j g hl hl2 hij hgi
      · simp only [if_neg hl2]; exact hd g (hbs i hl g hgi)
    · simp only [if_neg hl] at hgi
      by_cases hl2 : j < xs.length
      · simp only [if_pos hl2]; exact fun h3 => hd g (hbs j hl2 g h3) hgi
      · omega
  · rcases hg with hg | ⟨i, hi, hgi⟩
    · exact .inr (.inr hg)
    · by_cases hl : i < xs.length
      · simp only [if_pos hl] at hgi; exact .inl (hbs i hl g hgi)
      · simp only [if_neg hl] at hgi; exact .inr (.inl hgi)
  · rcases hg with hg | hg | hg
    · have := h.bound g hg; exact ⟨this.1, by omega⟩
    · have := hk.bound g hg; exact ⟨this.1, by omega⟩
    · exact World.ownsRow.lt ho g hg
end Go.Proofs.YtofikgjoiidhmaaGreatDoor

namespace Go.Proofs.YtofikgjoiidhmaaGreatDoor
open Go.RowKit Go

/-- The names of the built-in words. -/
def primNames : List ByteArray := [⟨#[100, 117, 112]⟩, ⟨#[100, 114, 111, 112]⟩, ⟨#[111, 118, 101, 114]⟩, ⟨#[110, 105, 112]⟩, ⟨#[115, 119, 97, 112]⟩, ⟨#[43]⟩, ⟨#[45]⟩, ⟨#[42]⟩, ⟨#[97, 110, 100]⟩, ⟨#[111, 114]⟩, ⟨#[50, 42]⟩, ⟨#[50, 47]⟩, ⟨#[47, 109, 111, 100]⟩, ⟨#[64]⟩, ⟨#[33]⟩, ⟨#[97]⟩, ⟨#[97, 33]⟩, ⟨#[101, 109, 105, 116]⟩, ⟨#[107, 101, 121]⟩, ⟨#[112, 117, 115, 104]⟩, ⟨#[112, 111, 112]⟩, ⟨#[105]⟩, ⟨#[46]⟩, ⟨#[110, 111, 112]⟩]
/-- The table's cells: for each word its name, how many numbers it takes, its function. -/
def primCells : Array Value := #[.string ⟨#[100, 117, 112]⟩, .int .i64 1, .func (.func 99) #[] #[], .string ⟨#[100, 114, 111, 112]⟩, .int .i64 1, .func (.func 100) #[] #[], .string ⟨#[111, 118, 101, 114]⟩, .int .i64 2, .func (.func 101) #[] #[], .string ⟨#[110, 105, 112]⟩, .int .i64 2, .func (.func 102) #[] #[], .string ⟨#[115, 119, 97, 112]⟩, .int .i64 2, .func (.func 103) #[] #[], .string ⟨#[43]⟩, .int .i64 2, .func (.func 104) #[] #[], .string ⟨#[45]⟩, .int .i64 1, .func (.func 105) #[] #[], .string ⟨#[42]⟩, .int .i64 2, .func (.func 106) #[] #[], .string ⟨#[97, 110, 100]⟩, .int .i64 2, .func (.func 107) #[] #[], .string ⟨#[111, 114]⟩, .int .i64 2, .func (.func 108) #[] #[], .string ⟨#[50, 42]⟩, .int .i64 1, .func (.func 109) #[] #[], .string ⟨#[50, 47]⟩, .int .i64 1, .func (.func 110) #[] #[], .string ⟨#[47, 109, 111, 100]⟩, .int .i64 2, .func (.func 111) #[] #[], .string ⟨#[64]⟩, .int .i64 1, .func (.func 112) #[] #[], .string ⟨#[33]⟩, .int .i64 2, .func (.func 113) #[] #[], .string ⟨#[97]⟩, .int .i64 0, .func (.func 114) #[] #[], .string ⟨#[97, 33]⟩, .int .i64 1, .func (.func 115) #[] #[], .string ⟨#[101, 109, 105, 116]⟩, .int .i64 1, .func (.func 116) #[] #[], .string ⟨#[107, 101, 121]⟩, .int .i64 0, .func (.func 117) #[] #[], .string ⟨#[112, 117, 115, 104]⟩, .int .i64 1, .func (.func 118) #[] #[], .string ⟨#[112, 111, 112]⟩, .int .i64 0, .func (.func 119) #[] #[], .string ⟨#[105]⟩, .int .i64 0, .func (.func 120) #[] #[], .string ⟨#[46]⟩, .int .i64 1, .func (.func 121) #[] #[], .string ⟨#[110, 111, 112]⟩, .int .i64 0, .func (.func 122) #[] #[]]
theorem primCells_info : (Tryz.prog.info? 92).map (·.size) = some primCells.size := by kernel_rfl
theorem primCells_one : primCells.all (·.oneCell') = true := by kernel_rfl
theorem prim_u : Tryz.prog.underlying 92 = some (.array 24 91) := by kernel_rfl
set_option maxRecDepth 100000 in
set_option maxHeartbeats 4000000 in
theorem builtins_any (w : World) : Calls Tryz.prog 48 #[] w fun e w' => e = .returned (.agg primCells) ∧ Below w.heap.size w w' := by
  go_enter Tryz.func48, Tryz.ntmps48
  go_wp2_with (with_reducible refine wpList_build rfl 92 _ rfl (by kernel_rfl) ?_; refine wpList_store_row rfl 92 _ _ rfl w.heap.size primCells rfl (by kernel_rfl) 92 _ (heap_alloc_last w _) primCells_info (by kernel_rfl) primCells_one ?_; refine unstop ?_)
  refine Stop.go ?_
  rw [World.setRow_alloc_new]
  go_wp2_with fail
  exact bodyPost_ret (v := .agg primCells) (results_cell_row rfl _ _ w.heap.size 92 primCells (0, 0) _ rfl (heap_alloc_last w _) prim_u rfl primCells_info) rfl ⟨rfl, (Below.refl _ _).alloc (Nat.le_refl _) _⟩
/-- What stands in the table at a word's number. -/
def primCell (k : Nat) : Array Value := #[primCells.getD (3 * k) (.int .i64 0), primCells.getD (3 * k + 1) (.int .i64 0), primCells.getD (3 * k + 2) (.int .i64 0)]
theorem prim_index_0 (W : World) : (Instr.index 92 (.agg primCells) (.int .i64 0)).run Tryz.prog W = .ok (.agg (primCell 0)) W := by kernel_rfl
theorem prim_index_1 (W : World) : (Instr.index 92 (.agg primCells) (.int .i64 1)).run Tryz.prog W = .ok (.agg (primCell 1)) W := by kernel_rfl
theorem prim_index_2 (W : World) : (Instr.index 92 (.agg primCells) (.int .i64 2)).run Tryz.prog W = .ok (.agg (primCell 2)) W := by kernel_rfl
theorem prim_index_3 (W : World) : (Instr.index 92 (.agg primCells) (.int .i64 3)).run Tryz.prog W = .ok (.agg (primCell 3)) W := by kernel_rfl
theorem prim_index_4 (W : World) : (Instr.index 92 (.agg primCells) (.int .i64 4)).run Tryz.prog W = .ok (.agg (primCell 4)) W := by kernel_rfl
theorem prim_index_5 (W : World) : (Instr.index 92 (.agg primCells) (.int .i64 5)).run Tryz.prog W = .ok (.agg (primCell 5)) W := by kernel_rfl
theorem prim_index_6 (W : World) : (Instr.index 92 (.agg primCells) (.int .i64 6)).run Tryz.prog W = .ok (.agg (primCell 6)) W := by kernel_rfl
theorem prim_index_7 (W : World) : (Instr.index 92 (.agg primCells) (.int .i64 7)).run Tryz.prog W = .ok (.agg (primCell 7)) W := by kernel_rfl
theorem prim_index_8 (W : World) : (Instr.index 92 (.agg primCells) (.int .i64 8)).run Tryz.prog W = .ok (.agg (primCell 8)) W := by kernel_rfl
theorem prim_index_9 (W : World) : (Instr.index 92 (.agg primCells) (.int .i64 9)).run Tryz.prog W = .ok (.agg (primCell 9)) W := by kernel_rfl
theorem prim_index_10 (W : World) : (Instr.index 92 (.agg primCells) (.int .i64 10)).run Tryz.prog W = .ok (.agg (primCell 10)) W := by kernel_rfl
theorem prim_index_11 (W : World) : (Instr.index 92 (.agg primCells) (.int .i64 11)).run Tryz.prog W = .ok (.agg (primCell 11)) W := by kernel_rfl
theorem prim_index_12 (W : World) : (Instr.index 92 (.agg primCells) (.int .i64 12)).run Tryz.prog W = .ok (.agg (primCell 12)) W := by kernel_rfl
theorem prim_index_13 (W : World) : (Instr.index 92 (.agg primCells) (.int .i64 13)).run Tryz.prog W = .ok (.agg (primCell 13)) W := by kernel_rfl
theorem prim_index_14 (W : World) : (Instr.index 92 (.agg primCells) (.int .i64 14)).run Tryz.prog W = .ok (.agg (primCell 14)) W := by kernel_rfl
theorem prim_index_15 (W : World) : (Instr.index 92 (.agg primCells) (.int .i64 15)).run Tryz.prog W = .ok (.agg (primCell 15)) W := by kernel_rfl
theorem prim_index_16 (W : World) : (Instr.index 92 (.agg primCells) (.int .i64 16)).run Tryz.prog W = .ok (.agg (primCell 16)) W := by kernel_rfl
theorem prim_index_17 (W : World) : (Instr.index 92 (.agg primCells) (.int .i64 17)).run Tryz.prog W = .ok (.agg (primCell 17)) W := by kernel_rfl
theorem prim_index_18 (W : World) : (Instr.index 92 (.agg primCells) (.int .i64 18)).run Tryz.prog W = .ok (.agg (primCell 18)) W := by kernel_rfl
theorem prim_index_19 (W : World) : (Instr.index 92 (.agg primCells) (.int .i64 19)).run Tryz.prog W = .ok (.agg (primCell 19)) W := by kernel_rfl
theorem prim_index_20 (W : World) : (Instr.index 92 (.agg primCells) (.int .i64 20)).run Tryz.prog W = .ok (.agg (primCell 20)) W := by kernel_rfl
theorem prim_index_21 (W : World) : (Instr.index 92 (.agg primCells) (.int .i64 21)).run Tryz.prog W = .ok (.agg (primCell 21)) W := by kernel_rfl
theorem prim_index_22 (W : World) : (Instr.index 92 (.agg primCells) (.int .i64 22)).run Tryz.prog W = .ok (.agg (primCell 22)) W := by kernel_rfl
theorem prim_index_23 (W : World) : (Instr.index 92 (.agg primCells) (.int .i64 23)).run Tryz.prog W = .ok (.agg (primCell 23)) W := by kernel_rfl
theorem prim_index (k : Nat) (hk : k < 24) (W : World) : (Instr.index 92 (.agg primCells) (.int .i64 (k : Int))).run Tryz.prog W = .ok (.agg (primCell k)) W := by
  match k, hk with
  | 0, _ => exact prim_index_0 W
  | 1, _ => exact prim_index_1 W
  | 2, _ => exact prim_index_2 W
  | 3, _ => exact prim_index_3 W
  | 4, _ => exact prim_index_4 W
  | 5, _ => exact prim_index_5 W
  | 6, _ => exact prim_index_6 W
  | 7, _ => exact prim_index_7 W
  | 8, _ => exact prim_index_8 W
  | 9, _ => exact prim_index_9 W
  | 10, _ => exact prim_index_10 W
  | 11, _ => exact prim_index_11 W
  | 12, _ => exact prim_index_12 W
  | 13, _ => exact prim_index_13 W
  | 14, _ => exact prim_index_14 W
  | 15, _ => exact prim_index_15 W
  | 16, _ => exact prim_index_16 W
  | 17, _ => exact prim_index_17 W
  | 18, _ => exact prim_index_18 W
  | 19, _ => exact prim_index_19 W
  | 20, _ => exact prim_index_20 W
  | 21, _ => exact prim_index_21 W
  | 22, _ => exact prim_index_22 W
  | 23, _ => exact prim_index_23 W
  | k + 24, h => omega
theorem prim_name (k : Nat) (hk : k < 24) : ∃ t f, primCell k = #[.string (primNames.getD k ⟨#[]⟩), .int .i64 t, f] := by
  match k, hk with
  | 0, _ => exact ⟨_, _, rfl⟩
  | 1, _ => exact ⟨_, _, rfl⟩
  | 2, _ => exact ⟨_, _, rfl⟩
  | 3, _ => exact ⟨_, _, rfl⟩
  | 4, _ => exact ⟨_, _, rfl⟩
  | 5, _ => exact ⟨_, _, rfl⟩
  | 6, _ => exact ⟨_, _, rfl⟩
  | 7, _ => exact ⟨_, _, rfl⟩
  | 8, _ => exact ⟨_, _, rfl⟩
  | 9, _ => exact ⟨_, _, rfl⟩
  | 10, _ => exact ⟨_, _, rfl⟩
  | 11, _ => exact ⟨_, _, rfl⟩
  | 12, _ => exact ⟨_, _, rfl⟩
  | 13, _ => exact ⟨_, _, rfl⟩
  | 14, _ => exact ⟨_, _, rfl⟩
  | 15, _ => exact ⟨_, _, rfl⟩
  | 16, _ => exact ⟨_, _, rfl⟩
  | 17, _ => exact ⟨_, _, rfl⟩
  | 18, _ => exact ⟨_, _, rfl⟩
  | 19, _ => exact ⟨_, _, rfl⟩
  | 20, _ => exact ⟨_, _, rfl⟩
  | 21, _ => exact ⟨_, _, rfl⟩
  | 22, _ => exact ⟨_, _, rfl⟩
  | 23, _ => exact ⟨_, _, rfl⟩
  | k + 24, h => omega
end Go.Proofs.YtofikgjoiidhmaaGreatDoor

namespace Go.Proofs.YtofikgjoiidhmaaGreatDoor
open Go.RowKit Go

theorem below_alloc1 (w : World) (o : Obj) : Below w.heap.size w (w.alloc o) := (Below.refl _ _).alloc (Nat.le_refl _) _
/-- The name of a word; the empty text where there is none. -/
def primN (k : Int) : ByteArray := if 0 ≤ k ∧ k ≤ 23 then primNames.getD k.toNat ⟨#[]⟩ else ⟨#[]⟩
def primStrs : Array Value := (primNames.map Value.string).toArray
theorem names_any (w : World) : Calls Tryz.prog 58 #[] w fun e w' => e = .returned (.slice (some ⟨w.heap.size, 0, none⟩) 24 24) ∧ Blk w' w.heap.size 9 primStrs ∧ Below w.heap.size w w' := by
  go_enter Tryz.func58, Tryz.ntmps58
  go_wp2
  go_ret
  exact ⟨rfl, Blk.new w 9 _, below_alloc1 w _⟩
theorem strs_cell {w : World} {g k : Nat} (h : Blk w g 9 primStrs) (hk : k < 24) : w.cell? ⟨g, k, none⟩ = some (.string (primNames.getD k ⟨#[]⟩)) := by
  rw [h.cell]
  match k, hk with
  | 0, _ => rfl
  | 1, _ => rfl
  | 2, _ => rfl
  | 3, _ => rfl
  | 4, _ => rfl
  | 5, _ => rfl
  | 6, _ => rfl
  | 7, _ => rfl
  | 8, _ => rfl
  | 9, _ => rfl
  | 10, _ => rfl
  | 11, _ => rfl
  | 12, _ => rfl
  | 13, _ => rfl
  | 14, _ => rfl
  | 15, _ => rfl
  | 16, _ => rfl
  | 17, _ => rfl
  | 18, _ => rfl
  | 19, _ => rfl
  | 20, _ => rfl
  | 21, _ => rfl
  | 22, _ => rfl
  | 23, _ => rfl
  | k + 24, h => omega
theorem spec_primname (k : Int) (h0 : -9223372036854775808 ≤ k) (h1 : k ≤ 9223372036854775807) (w : World) : Calls Tryz.prog 52 #[.int .i64 k] w fun e w' => e = .returned (.string (primN k)) ∧ Below w.heap.size w w' := by
  by_cases h : 0 ≤ k ∧ k ≤ 23
  · have HIN := Lib.hid (fun W => in_any k 0 23 W)
    rw [inB_true h.1 h.2] at HIN
    obtain ⟨n, rfl⟩ : ∃ n : Nat, k = n := ⟨k.toNat, by omega⟩
    have hn : n < 24 := by omega
    obtain ⟨nm, hnm⟩ : ∃ nm, primNames.getD n ⟨#[]⟩ = nm := ⟨_, rfl⟩
    have HE : Hid (primN (n : Int) = nm) := Lib.hid (by unfold primN; rw [if_pos h]; exact hnm)
    have HNM := Lib.hid hnm
    have g1 : (0 : Int) ≤ (n : Int) := by omega
    have g2 : (n : Int) < 24 := by omega
    clear h h0 h1 hnm
    rw [HE.out]
    go_enter Tryz.func52, Tryz.ntmps52
    go_wp2_with fail
    refine (names_any _).mono ?_
    rintro e w1 ⟨rfl, hb, hbl⟩
    have c0 := strs_cell hb hn
    rw [HNM.out] at c0
    have HB := Lib.hid hbl
    clear hb hbl
    go_wp2_with fail
    refine (HIN.out _).mono ?_
    rintro e w' ⟨rfl, rfl⟩
    go_wp2_with fail
    go_ret
    exact ⟨rfl, HB.out⟩
  · have HIN := Lib.hid (fun W => in_any k 0 23 W)
    rw [inB_false h] at HIN
    have HE : Hid (primN k = ⟨#[]⟩) := Lib.hid (by unfold primN; rw [if_neg h])
    clear h
    rw [HE.out]
    go_enter Tryz.func52, Tryz.ntmps52
    go_wp2_with fail
    refine (names_any _).mono ?_
    rintro e w1 ⟨rfl, hb, hbl⟩
    have HB := Lib.hid hbl
    clear hb hbl
    go_wp2_with fail
    refine (HIN.out _).mono ?_
    rintro e w' ⟨rfl, rfl⟩
    go_wp2_with fail
    go_ret
    exact ⟨rfl, HB.out⟩
theorem isbuiltin_any (k : Int) (w : World) : Calls Tryz.prog 80 #[.int .i64 k] w fun e w' => e = .returned (.bool (inB k 0 23)) ∧ w = w' := by
  by_cases h0 : 0 ≤ k
  · have h0' : decide (0 ≤ k) = true := by simpa using h0
    by_cases h1 : k ≤ 23
    · rw [inB_true h0 h1]
      have h2 : k < 24 := by omega
      go_enter Tryz.func80, Tryz.ntmps80
      go_wp2
      go_ret
      exact ⟨rfl, rfl⟩
    · rw [inB_false (by omega)]
      have h2 : ¬ k < 24 := by omega
      have h2' : decide (k < 24) = false := by simp; omega
      go_enter Tryz.func80, Tryz.ntmps80
      go_wp2
      go_ret
      exact ⟨rfl, rfl⟩
  · rw [inB_false (by omega)]
    have h0' : decide (0 ≤ k) = false := by simpa using h0
    go_enter Tryz.func80, Tryz.ntmps80
    go_wp2
    go_ret
    exact ⟨rfl, rfl⟩
theorem impl_primname (k : Int) (w : World) : Calls Tryz.prog 85 #[.int .i64 k] w fun e w' => e = .returned (.string (primN k)) ∧ Below w.heap.size w w' := by
  have HB := Lib.hid (fun W => isbuiltin_any k W)
  by_cases h : 0 ≤ k ∧ k ≤ 23
  · rw [inB_true h.1 h.2] at HB
    obtain ⟨n, rfl⟩ : ∃ n : Nat, k = n := ⟨k.toNat, by omega⟩
    have hn : n < 24 := by omega
    obtain ⟨t, f, hc⟩ := prim_name n hn
    have hix := prim_index n hn
    rw [hc] at hix
    obtain ⟨nm, hnm⟩ : ∃ nm, primNames.getD n ⟨#[]⟩ = nm := ⟨_, rfl⟩
    rw [hnm] at hix
    have hfl : ∀ W, (Instr.field 91 (.agg #[.string nm, .int .i64 t, f]) 0).run Tryz.prog W = .ok (.string nm) W := fun _ => by kernel_rfl
    have HE : Hid (primN (n : Int) = nm) := Lib.hid (by unfold primN; rw [if_pos h]; exact hnm)
    clear h hc hnm
    rw [HE.out]
    go_enter Tryz.func85, Tryz.ntmps85
    go_wp2_with fail
    refine (HB.out _).mono ?_
    rintro e w' ⟨rfl, rfl⟩
    go_wp2_with fail
    refine (builtins_any _).mono ?_
    rintro e w1 ⟨rfl, hb⟩
    have HBB := Lib.hid hb
    clear hb
    go_wp2_with fail
    go_ret
    exact ⟨rfl, HBB.out⟩
  · rw [inB_false h] at HB
    have HE : Hid (primN k = ⟨#[]⟩) := Lib.hid (by unfold primN; rw [if_neg h])
    clear h
    rw [HE.out]
    go_enter Tryz.func85, Tryz.ntmps85
    go_wp2_with fail
    refine (HB.out _).mono ?_
    rintro e w' ⟨rfl, rfl⟩
    go_wp2_with fail
    go_ret
    exact ⟨rfl, Below.refl _ _⟩
end Go.Proofs.YtofikgjoiidhmaaGreatDoor

namespace Go.Proofs.YtofikgjoiidhmaaGreatDoor
open Go.RowKit Go

abbrev slV (s : Int × Int) : Value := .agg #[.int .i64 s.1, .int .i32 s.2]
def slv : List (Int × Int) → List Value
  | [] => []
  | s :: r => .int .i64 s.1 :: .int .i32 s.2 :: slv r
theorem slv_len (xs : List (Int × Int)) : (slv xs).length = xs.length * 2 := by
  induction xs with
  | nil => rfl
  | cons s r ih => simp only [slv, List.length_cons, ih]; omega
theorem slv_app (xs ys : List (Int × Int)) : slv (xs ++ ys) = slv xs ++ slv ys := by
  induction xs with
  | nil => rfl
  | cons s r ih => simp only [slv, List.cons_append, ih]
theorem slv_get0 {xs : List (Int × Int)} {i : Nat} (h : i < xs.length) : (slv xs)[i * 2]? = some (.int .i64 xs[i].1) := by
  induction xs generalizing i with
  | nil => simp at h
  | cons s r ih =>
    cases i with
    | zero => simp [slv]
    | succ i =>
      have := ih (i := i) (by simpa using h)
      rw [show (i + 1) * 2 = i * 2 + 2 by omega]
      simpa [slv] using this
theorem slv_get1 {xs : List (Int × Int)} {i : Nat} (h : i < xs.length) : (slv xs)[i * 2 + 1]? = some (.int .i32 xs[i].2) := by
  induction xs generalizing i with
  | nil => simp at h
  | cons s r ih =>
    cases i with
    | zero => simp [slv]
    | succ i =>
      have := ih (i := i) (by simpa using h)
      rw [show (i + 1) * 2 + 1 = i * 2 + 1 + 2 by omega]
      simpa [slv] using this
theorem slv_set0 {xs : List (Int × Int)} {i : Nat} (h : i < xs.length) (m : Int) : (slv xs).set (i * 2) (.int .i64 m) = slv (xs.set i (m, xs[i].2)) := by
  induction xs generalizing i with
  | nil => simp at h
  | cons s r ih =>
    cases i with
    | zero => simp [slv]
    | succ i =>
      have := ih (i := i) (by simpa using h)
      rw [show (i + 1) * 2 = i * 2 + 2 by omega]
      simpa [slv] using this
theorem slv_set1 {xs : List (Int × Int)} {i : Nat} (h : i < xs.length) (m : Int) : (slv xs).set (i * 2 + 1) (.int .i32 m) = slv (xs.set i (xs[i].1, m)) := by
  induction xs generalizing i with
  | nil => simp at h
  | cons s r ih =>
    cases i with
    | zero => simp [slv]
    | succ i =>
      have := ih (i := i) (by simpa using h)
      rw [show (i + 1) * 2 + 1 = i * 2 + 1 + 2 by omega]
      simpa [slv] using this
theorem slv_set {xs : List (Int × Int)} {i : Nat} (h : i < xs.length) (s : Int × Int) : ((slv xs).set (i * 2) (.int .i64 s.1)).set (i * 2 + 1) (.int .i32 s.2) = slv (xs.set i s) := by
  rw [slv_set0 h, slv_set1 (by simpa using h)]
  simp
theorem slv_one : ∀ {xs : List (Int × Int)}, ∀ u ∈ slv xs, u.oneCell' = true := by
  intro xs
  induction xs with
  | nil => intro u hu; cases hu
  | cons s r ih =>
    intro u hu
    simp only [slv, List.mem_cons] at hu
    rcases hu with rfl | rfl | hu
    · rfl
    · rfl
    · exact ih u hu
/-- A list of slots that can be read. -/
def RdS (w : World) (v : Value) (xs : List (Int × Int)) : Prop :=
  ∃ (A : Option Addr) (cap : Nat), v = .slice A xs.length cap ∧ xs.length ≤ 4611686018427387904 ∧ ∀ i (h : i < xs.length), ∃ a, A = some a ∧ a.block < w.heap.size ∧ w.cell? (a.add (i * 2)) = some (.int .i64 xs[i].1) ∧ w.cell? ((a.add (i * 2)).add 1) = some (.int .i32 xs[i].2)
theorem RdS.below {w w' : World} {v : Value} {xs : List (Int × Int)} (h : RdS w v xs) (hb : Below w.heap.size w w') : RdS w' v xs := by
  obtain ⟨A, cap, rfl, hl, hc⟩ := h
  refine ⟨A, cap, rfl, hl, fun i hi => ?_⟩
  obtain ⟨a, rfl, e2, e3, e4⟩ := hc i hi
  exact ⟨a, rfl, by have := hb.size; omega, (hb.cell (by rw [addr_addb]; exact e2)).trans e3, (hb.cell (by rw [addr_addb, addr_addb]; exact e2)).trans e4⟩
theorem RdS.of_own {w : World} {base : Nat} {e : TypeId} {v : Value} {xs : List (Int × Int)} (h : w.ownsRow base e 2 v xs.length (slv xs)) (hl : xs.length ≤ 4611686018427387904) : RdS w v xs := by
  rcases h.2 with ⟨rfl, h0⟩ | ⟨g, cap, cur, rfl, hb, hg, hn, hm, hsz, ht⟩
  · refine ⟨none, 0, by rw [h0], hl, fun i hi => by omega⟩
  · refine ⟨_, cap, rfl, hl, fun i hi => ⟨⟨g, 0, none⟩, rfl, (Array.getElem?_eq_some_iff.1 hg).1, ?_, ?_⟩⟩
    · rw [addr_lit, Nat.zero_add, cell_of_row w g (i * 2) cur e (0, 0) hg]
      have h1 := congrArg (·[i * 2]?) ht
      simp only [slv_get0 hi, List.getElem?_take] at h1
      rw [if_pos (by omega)] at h1
      simpa using h1
    · rw [addr_lit, Nat.zero_add, addr_lit, cell_of_row w g (i * 2 + 1) cur e (0, 0) hg]
      have h1 := congrArg (·[i * 2 + 1]?) ht
      simp only [slv_get1 hi, List.getElem?_take] at h1
      rw [if_pos (by omega)] at h1
      simpa using h1
theorem RdS.form {w : World} {v : Value} {xs : List (Int × Int)} (h : RdS w v xs) : ∃ A cap, v = .slice A xs.length cap := by
  obtain ⟨A, cap, e, -⟩ := h
  exact ⟨A, cap, e⟩
/-- A new list of slots. -/
def NewS (w : World) (xs : List (Int × Int)) (e : Ending) (w' : World) : Prop := ∃ v, e = .returned v ∧ w'.ownsRow w.heap.size 70 2 v xs.length (slv xs) ∧ Below w.heap.size w w'
/-- n marks, from k on. -/
def marksS (k n : Nat) : List (Int × Int) := (List.range n).map fun (j : Nat) => (((k + 2 * j : Nat) : Int), ((k + 2 * j + 1 : Nat) : Int))
theorem marksS_len (k n : Nat) : (marksS k n).length = n := by simp [marksS]
theorem marksS_succ (k i : Nat) : marksS k (i + 1) = marksS k i ++ [(((k + 2 * i : Nat) : Int), ((k + 2 * i + 1 : Nat) : Int))] := by unfold marksS; rw [List.range_succ, List.map_append, List.map_cons, List.map_nil]
theorem marksS_get (k n i : Nat) (h : i < (marksS k n).length) : (marksS k n)[i] = ((k : Int) + 2 * (i : Int), (k : Int) + 2 * (i : Int) + 1) := by simp [marksS]
def halfS (k i : Nat) (xs : List (Int × Int)) : List (Int × Int) := marksS k i ++ xs.drop i
theorem halfS_len (k i : Nat) (xs : List (Int × Int)) (h : i ≤ xs.length) : (halfS k i xs).length = xs.length := by simp [halfS, marksS_len]; omega
theorem halfS_set {xs : List (Int × Int)} {k i : Nat} (h : i < xs.length) : (halfS k i xs).set i ((k : Int) + 2 * (i : Int), (k : Int) + 2 * (i : Int) + 1) = halfS k (i + 1) xs := by
  unfold halfS
  rw [marksS_succ, List.set_append_right _ _ (by simp [marksS_len]), marksS_len, Nat.sub_self, List.drop_eq_getElem_cons h, List.set_cons_zero]
  simp

end Go.Proofs.YtofikgjoiidhmaaGreatDoor

namespace Go.Proofs.YtofikgjoiidhmaaGreatDoor
open Go.RowKit Go

/-- The cells of one slot of a list, as the walk spells them. -/
theorem RdS.item {w : World} {A : Option Addr} {n cap : Nat} {xs : List (Int × Int)} (h : RdS w (.slice A n cap) xs) {i : Nat} (hi : i < xs.length) : ∃ a, A = some a ∧ a.block < w.heap.size ∧ w.cell? (a.add (i * 2)) = some (.int .i64 xs[i].1) ∧ w.cell? ⟨(a.add (i * 2)).block, (a.add (i * 2)).off + 1, none⟩ = some (.int .i32 xs[i].2) := by
  obtain ⟨A3, c4, hv4, -, hc4⟩ := h
  injection hv4 with e1 e2 e3
  subst e1 e3
  obtain ⟨a, rfl, hb, q0, q1⟩ := hc4 i hi
  exact ⟨a, rfl, hb, q0, q1⟩
theorem infoS : (Tryz.prog.info? 70).map (fun i => (i.zero, i.size, i.bytes)) = some (some (.agg #[.int .i64 0, .int .i32 0]), 2, 16) := by kernel_rfl

theorem slv_mid {xs : List (Int × Int)} {k i : Nat} (h : i < xs.length) : ((slv (halfS k i xs)).set (i * 2) (.int .i64 ((k : Int) + 2 * (i : Int)))).set (i * 2 + 1) (.int .i32 ((k : Int) + 2 * (i : Int) + 1)) = slv (halfS k (i + 1) xs) := by
  have hl := halfS_len k i xs (by omega)
  rw [slv_set (xs := halfS k i xs) (by omega) ((k : Int) + 2 * (i : Int), (k : Int) + 2 * (i : Int) + 1), halfS_set h]
def copiedS (xs : List (Int × Int)) (i : Nat) : List (Int × Int) := xs.take i ++ List.replicate (xs.length - i) (0, 0)
theorem copiedS_len (xs : List (Int × Int)) (i : Nat) (h : i ≤ xs.length) : (copiedS xs i).length = xs.length := by simp [copiedS]; omega
theorem slv_rep (n : Nat) : slv (List.replicate n (0, 0)) = (List.replicate n [Value.int .i64 0, Value.int .i32 0]).flatten := by
  induction n with
  | zero => rfl
  | succ n ih => simp only [List.replicate_succ, slv, ih, List.flatten_cons, List.cons_append, List.nil_append]
theorem copiedS_zero (xs : List (Int × Int)) : slv (copiedS xs 0) = (List.replicate xs.length [Value.int .i64 0, Value.int .i32 0]).flatten := by simp [copiedS, slv_rep]
theorem copiedS_full (xs : List (Int × Int)) : copiedS xs xs.length = xs := by simp [copiedS]
theorem copiedS_set {xs : List (Int × Int)} {i : Nat} (h : i < xs.length) : ((slv (copiedS xs i)).set (i * 2) (.int .i64 xs[i].1)).set (i * 2 + 1) (.int .i32 xs[i].2) = slv (copiedS xs (i + 1)) := by
  rw [slv_set (xs := copiedS xs i) (by rw [copiedS_len xs i (by omega)]; exact h)]
  congr 1
  unfold copiedS
  obtain ⟨m, hm⟩ : ∃ m, xs.length - i = m + 1 := ⟨xs.length - i - 1, by omega⟩
  rw [hm, show xs.length - (i + 1) = m by omega, List.replicate_succ, List.set_append_right _ _ (by simp; omega)]
  have : i - (xs.take i).length = 0 := by simp; omega
  rw [this, List.set_cons_zero, List.take_succ_eq_append_getElem h, List.append_assoc]
  rfl
theorem made_slv (n : Nat) : (madeCells #[Value.int .i64 0, Value.int .i32 0] (n * 2)).toList = slv (List.replicate n (0, 0)) := by
  refine List.ext_getElem (by simp [madeCells, slv_len]) fun i h1 h2 => ?_
  have h3 : i < n * 2 := by simpa [madeCells] using h1
  obtain ⟨j, hj⟩ : ∃ j, i = j * 2 ∨ i = j * 2 + 1 := ⟨i / 2, by omega⟩
  rcases hj with rfl | rfl
  · have := slv_get0 (xs := List.replicate n (0, 0)) (i := j) (by simp; omega)
    rw [List.getElem?_eq_getElem h2] at this
    rw [Option.some.inj this]
    simp [madeCells]
  · have := slv_get1 (xs := List.replicate n (0, 0)) (i := j) (by simp; omega)
    rw [List.getElem?_eq_getElem h2] at this
    rw [Option.some.inj this]
    have e : (j * 2 + 1) % 2 = 1 := by omega
    simp [madeCells, e]
end Go.Proofs.YtofikgjoiidhmaaGreatDoor

namespace Go.Proofs.YtofikgjoiidhmaaGreatDoor
open Go.RowKit Go

theorem step_append_src {P : Program} {ops : Array Oper} {o : Oper} {a : Act} {w : World} {K : Act → World → Prop} {Q : Exit → Act → World → Prop} {E : Prop} (hgd : o.guard = none) (s x : Operand) (t : TypeId)
    (ho : o.op = .call { callee := .builtin .append, args := #[s, x], argTypes := #[t, t] })
    (base : Nat) (e : TypeId) (i : TypeInfo) (z : Value) (size bytes : Nat) (ht : P.underlying t = some (.slice e)) (hi : P.info? e = some i) (hz : i.zero = some z)
    (hsize : i.size = size) (hby : i.bytes = bytes) (hzs : z.cells.size = size) (hsz : 0 < size)
    (v : Value) (n : Nat) (xs : List Value) (hs : a.eval s = v) (hown : w.ownsRow base e size v n xs)
    (u : Value) (m : Nat) (ys : List Value) (hx : a.eval x = u) (hsrc : SrcAt w size u m ys) (h1 : ∀ x ∈ ys, x.oneCell' = true)
    (h63 : n + m ≤ maxLen) (hbytes : (n + m) * bytes ≤ 140737488355328) (hbase : base ≤ w.heap.size)
    (h : ∀ v' w', w'.ownsRow base e size v' (n + m) (xs ++ ys) → Hid (AppAlt w w' v v' n m) → K (a.put o.dst v') w') :
    if Region.wanted o (yielded ops a.tmps) = true then Oper.wp P o a w K Q else E := by
  have hw : Region.wanted o (yielded ops a.tmps) = true := by simp [Region.wanted, hgd]
  rw [if_pos hw]
  obtain ⟨v', w', hrun, h2, h3⟩ := run_append_alt (P := P) base t o.type e i z size bytes ht hi hz hsize hby hzs hsz v n xs hown u m ys hsrc h1 h63 hbytes hbase
  unfold Oper.wp
  simp [execOp, ho, resolve, invoke, builtin, hs, hx, hrun, Result.andThen]
  exact h v' w' h2 (Lib.hid h3)
theorem slv_takeO : ∀ (xs : List (Int × Int)) (k : Nat), (slv xs).take (k * 2) = slv (xs.take k)
  | [], k => by simp [slv]
  | a :: r, 0 => by simp [slv]
  | a :: r, k + 1 => by
      rw [show (k + 1) * 2 = k * 2 + 1 + 1 by omega]
      simp only [List.take_succ_cons, slv, slv_takeO r k]
theorem own_formS {w : World} {base size : Nat} {e : TypeId} {v : Value} {n : Nat} {xs : List Value} (h : w.ownsRow base e size v n xs) : ∃ A cap, v = .slice A n cap := by
  rcases h.2 with ⟨rfl, h0⟩ | ⟨g, cap, cur, rfl, -⟩
  · exact ⟨none, 0, by rw [h0]⟩
  · exact ⟨_, _, rfl⟩
/-- A stack's box and its row. -/
structure StackAt (w : World) (lo g : Nat) (xs : List (Int × Int)) : Prop where
  val : ∃ v, Blk w g 150 #[v] ∧ w.ownsRow lo 70 2 v xs.length (slv xs)
  low : lo ≤ g
theorem box_neS {W : World} {g base size : Nat} {t e : TypeId} {cs : Array Value} {v : Value} {n : Nat} {xs : List Value} (hk : Blk W g t cs) (ho : W.ownsRow base e size v n xs) (ht : t ≠ e) : some g ≠ v.ownBlock := by
  rcases ho.2 with ⟨rfl, -⟩ | ⟨q, cap, cur, rfl, -, hq, -⟩
  · simp [Value.ownBlock]
  · intro h
    have h : g = q := by simpa [Value.ownBlock] using h
    subst h
    unfold Blk at hk
    rw [hk] at hq
    injection hq with h1
    injection h1 with _ h2
    exact ht h2
theorem StackAt.below {w w' : World} {lo g : Nat} {xs : List (Int × Int)} (h : StackAt w lo g xs) (hb : Below w.heap.size w w') : StackAt w' lo g xs := by
  obtain ⟨⟨v, h1, h2⟩, h3⟩ := h
  exact ⟨⟨v, h1.below hb h1.lt, h2.kept (row := none) ⟨hb.os, hb.tape, hb.output, hb.size, fun i hi _ => hb.block i hi⟩ (by cases v.ownBlock <;> simp)⟩, h3⟩
set_option maxRecDepth 100000 in
set_option maxHeartbeats 2000000 in
theorem push_any (lo g : Nat) (xs : List (Int × Int)) (s z : Int) (w : World) (hx : xs.length ≤ 1000) (hS : StackAt w lo g xs) :
    Calls Tryz.prog 160 #[.pointer (some ⟨g, 0, none⟩), .agg #[.int .i64 s, .int .i32 z]] w fun e w' => e = .returned (.tuple #[]) ∧ StackAt w' lo g (xs ++ [(s, z)]) ∧ Below lo w w' := by
  obtain ⟨⟨v, hB, hO⟩, hlo⟩ := hS
  obtain ⟨A, cap, rfl⟩ := own_formS hO
  obtain ⟨i0, hi0, hz0, hz1, hz2⟩ := info_parts infoS
  obtain ⟨n, hn⟩ : ∃ n, xs.length = n := ⟨_, rfl⟩
  rw [hn] at hO hB hx
  have hg : g < w.heap.size := hB.lt
  obtain ⟨W, hW⟩ : ∃ W, W = ((w.alloc (.cells #[.int .i64 s, .int .i32 z] 70)).alloc (.cells #[.int .i64 s, .int .i32 z] 70)).drew := ⟨_, rfl⟩
  have hWB0 : Below w.heap.size w W := by rw [hW]; exact (((below_alloc1 w _).alloc (below_alloc1 w _).size _)).drew
  have HWB := Lib.hid hWB0
  have SRC : Hid (SrcAt W 2 (.slice (some ⟨w.heap.size + 1, 0, none⟩) 1 1) 1 (slv [(s, z)])) := Lib.hid (by
    rw [hW]
    have hb := heap_alloc_new (w.alloc (.cells #[.int .i64 s, .int .i32 z] 70)) (.cells #[.int .i64 s, .int .i32 z] 70)
    rw [World.size_alloc] at hb
    refine ⟨_, _, rfl, rfl, (by simp), ?_⟩
    intro a ha j x hj
    injection ha with ha
    subst ha
    rw [addr_lit, Nat.zero_add]
    show World.cell? ((w.alloc (.cells #[.int .i64 s, .int .i32 z] 70)).alloc (.cells #[.int .i64 s, .int .i32 z] 70)) _ = _
    rw [cell_of_row _ _ j _ _ _ hb]
    simpa [slv] using hj)
  have OD2 : Hid (W.ownsRow lo 70 2 (.slice A n cap) n (slv xs)) := Lib.hid (hO.kept (row := none) ⟨hWB0.os, hWB0.tape, hWB0.output, hWB0.size, fun i hi _ => hWB0.block i hi⟩ (by cases (Value.slice A n cap).ownBlock <;> simp))
  have KBW : Hid (Blk W g 150 #[.slice A n cap]) := Lib.hid (hB.below hWB0 hB.lt)
  have hsW : lo ≤ W.heap.size := by have := hWB0.size; omega
  have HSW := Lib.hid hsW
  have HLO := Lib.hid hlo
  have hne : some g ≠ (Value.slice A n cap).ownBlock := box_neS KBW.out OD2.out (by decide)
  have HNE := Lib.hid hne
  have HW := Lib.hid hW
  have HLT : Hid (∀ k, (Value.slice A n cap).ownBlock = some k → lo ≤ k) := Lib.hid (fun k hk => (World.ownsRow.lt hO k hk).1)
  have p0 : w.cell? ⟨g, 0, none⟩ = some (.slice A n cap) := hB.cell 0
  have f0 := hB.frozen
  have f1 := f0 0
  have HN := Lib.hid hn
  have e1 : n + 1 ≤ maxLen := by unfold maxLen; omega
  have e2 : (n + 1) * 16 ≤ 140737488355328 := by omega
  clear hO hB hn hsW hne hW hlo f0 hWB0 hx
  go_enter Tryz.func160, Tryz.ntmps160
  go_wp2_with fail
  go_region_law (rw [← HW.out]; refine step_append_src rfl _ _ 150 rfl lo 70 i0 (.agg #[.int .i64 0, .int .i32 0]) 2 16 Tryz.underlying150 hi0 hz0 hz1 hz2 rfl (by decide) (.slice A n cap) n (slv xs) rfl OD2.out (.slice (some ⟨w.heap.size + 1, 0, none⟩) 1 1) 1 (slv [(s, z)]) rfl SRC.out slv_one e1 e2 HSW.out ?_; intro v' w2 hown halt; obtain ⟨D, dc, hv⟩ := own_formS hown; subst hv; have HO2 := Lib.hid hown; have KB2 := Lib.hid (KBW.out.grown halt.out.grown HNE.out); clear hown; clear p0 f1; have hg2 := KB2.out.lt; have p0 : w2.cell? ⟨g, 0, none⟩ = some (.slice A n cap) := KB2.out.cell 0; have f1 := KB2.out.frozen 0)
  all_goals
    have HE : Hid (StackAt (w2.setCell ⟨g, 0, none⟩ (.slice D (n + 1) dc)) lo g (xs ++ [(s, z)]) ∧ Below lo w (w2.setCell ⟨g, 0, none⟩ (.slice D (n + 1) dc))) := Lib.hid (by
      have hlen : (xs ++ [(s, z)]).length = n + 1 := by rw [List.length_append, HN.out]; rfl
      have hown2 : w2.ownsRow lo 70 2 (.slice D (n + 1) dc) (n + 1) (slv (xs ++ [(s, z)])) := by rw [slv_app]; exact HO2.out
      have hned : (Value.slice D (n + 1) dc).ownBlock = none ∨ (Value.slice D (n + 1) dc).ownBlock ≠ some g := .inr fun e => box_neS KB2.out hown2 (by decide) e.symm
      have hgr := halt.out.grown
      refine ⟨⟨⟨.slice D (n + 1) dc, by have := KB2.out.put 0 (.slice D (n + 1) dc); simpa using this, ?_⟩, HLO.out⟩, ?_⟩
      · rw [hlen]
        exact hown2.kept (row := some g) (only_setCell (World.grownBy.refl _ _) (.inl rfl) _) hned
      · have h1 : Below lo w w2 := ⟨hgr.os.trans HWB.out.os, hgr.tape.trans HWB.out.tape, hgr.output.trans HWB.out.output, Nat.le_trans HWB.out.size hgr.size, fun k hk => by
          have hkw : k < w.heap.size := by have := HLO.out; omega
          exact (hgr.block k (Nat.lt_of_lt_of_le hkw HWB.out.size) (fun e => by have := HLT.out k e.symm; omega)).trans (HWB.out.block k hkw)⟩
        exact h1.setCell (p := ⟨g, 0, none⟩) HLO.out _)
    go_wp2_with fail
    go_end0
    exact ⟨rfl, HE.out⟩
/-- The last op of a stack. -/
theorem stack_top {w : World} {lo k cap : Nat} {A : Option Addr} {xs : List (Int × Int)} (h : w.ownsRow lo 70 2 (.slice A (k + 1) cap) (k + 1) (slv xs)) : ∃ q s z, A = some ⟨q, 0, none⟩ ∧ k + 1 ≤ cap ∧ q < w.heap.size ∧ lo ≤ q ∧ xs = xs.take k ++ [(s, z)] ∧ w.cell? ⟨q, k * 2, none⟩ = some (.int .i64 s) ∧ w.cell? ⟨q, k * 2 + 1, none⟩ = some (.int .i32 z) ∧ w.ownsRow lo 70 2 (.slice A k cap) k (slv (xs.take k)) := by
  have hl := h.1
  rw [slv_len] at hl
  have hxl : xs.length = k + 1 := by omega
  rcases h.2 with ⟨e1, h0⟩ | ⟨q, cp, cur, e1, hlo, hrow, hle, hm, hsz, ht⟩
  · omega
  · injection e1 with e1 e2 e3
    subst e1 e3
    have hk : k < xs.length := by omega
    have hcell : ∀ j u, j < 2 → (slv xs)[k * 2 + j]? = some u → w.cell? ⟨q, k * 2 + j, none⟩ = some u := fun j u hj hu => by
      rw [cell_of_row w q (k * 2 + j) cur 70 (0, 0) hrow]
      have h1 := congrArg (·[k * 2 + j]?) ht
      simp only [hu, List.getElem?_take] at h1
      rw [if_pos (by omega)] at h1
      simpa using h1
    refine ⟨q, (xs[k]).1, (xs[k]).2, rfl, hle, (Array.getElem?_eq_some_iff.1 hrow).1, hlo, ?_, hcell 0 _ (by omega) (slv_get0 hk), hcell 1 _ (by omega) (slv_get1 hk), ⟨by rw [slv_len, List.length_take]; omega, .inr ⟨q, cap, cur, rfl, hlo, hrow, by omega, hm, hsz, ?_⟩⟩⟩
    · have e := List.take_append_drop k xs
      rw [List.drop_eq_getElem_cons hk, List.drop_of_length_le (by omega)] at e
      exact e.symm
    · have h2 := congrArg (List.take (k * 2)) ht
      rw [List.take_take, show min (k * 2) ((k + 1) * 2) = k * 2 by omega] at h2
      rw [h2, slv_takeO]
set_option maxRecDepth 100000 in
set_option maxHeartbeats 2000000 in
theorem pop_any (lo g : Nat) (xs : List (Int × Int)) (k : Nat) (hk : xs.length = k + 1) (hx : k ≤ 1000) (w : World) (hS : StackAt w lo g xs) :
    Calls Tryz.prog 158 #[.pointer (some ⟨g, 0, none⟩)] w fun e w' => ∃ s z, e = .returned (.agg #[.int .i64 s, .int .i32 z]) ∧ xs = xs.take k ++ [(s, z)] ∧ StackAt w' lo g (xs.take k) ∧ Below lo w w' ∧ w.grownBy w' (some g) := by
  obtain ⟨⟨v, hB, hO⟩, hlo⟩ := hS
  obtain ⟨A, cap, rfl⟩ := own_formS hO
  rw [hk] at hO hB
  obtain ⟨q, s, z, rfl, hcap, hq, hloq, hxs, c0, c1, hO2⟩ := stack_top hO
  have hg : g < w.heap.size := hB.lt
  have p0 : w.cell? ⟨g, 0, none⟩ = some (.slice (some ⟨q, 0, none⟩) (k + 1) cap) := hB.cell 0
  have f0 := hB.frozen
  have f1 := f0 0
  have i1 : (0 : Int) ≤ (k : Int) := by omega
  have i2 : (k : Int) < (k : Int) + 1 := by omega
  have i3 : k ≤ cap := by omega
  have i4 : (k : Int) ≤ (cap : Int) := by omega
  have wz : IntKind.i64.wrap ((k : Int) + 1 - 1) = (k : Int) := by rw [show (k : Int) + 1 - 1 = (k : Int) by omega]; exact IntWalk.i64_in _ (by omega)
  have wy : (k : Int) + 1 - 1 = (k : Int) := by omega
  have wk : IntKind.i64.wrap (k : Int) = (k : Int) := IntWalk.i64_in _ (by omega)
  have hlen : (xs.take k).length = k := by rw [List.length_take]; omega
  have HE : Hid (∀ W, Below w.heap.size w W → xs = xs.take k ++ [(s, z)] ∧ StackAt (W.setCell ⟨g, 0, none⟩ (.slice (some ⟨q, 0, none⟩) k cap)) lo g (xs.take k) ∧ Below lo w (W.setCell ⟨g, 0, none⟩ (.slice (some ⟨q, 0, none⟩) k cap))) := Lib.hid (fun W hW => by
    have hb2 := hB.below hW hB.lt
    have ho2 : W.ownsRow lo 70 2 (.slice (some ⟨q, 0, none⟩) k cap) k (slv (xs.take k)) := hO2.kept (row := none) ⟨hW.os, hW.tape, hW.output, hW.size, fun i hi _ => hW.block i hi⟩ (.inr (by simp [Value.ownBlock]))
    have hne : (Value.slice (some ⟨q, 0, none⟩) k cap).ownBlock = none ∨ (Value.slice (some ⟨q, 0, none⟩) k cap).ownBlock ≠ some g := .inr fun e => box_neS hb2 ho2 (by decide) e.symm
    refine ⟨hxs, ⟨⟨.slice (some ⟨q, 0, none⟩) k cap, by have := hb2.put 0 (.slice (some ⟨q, 0, none⟩) k cap); simpa using this, ?_⟩, hlo⟩, ?_⟩
    · rw [hlen]
      exact ho2.kept (row := some g) (only_setCell (World.grownBy.refl _ _) (.inl rfl) _) hne
    · exact (hW.mono (by omega)).setCell (p := ⟨g, 0, none⟩) hlo _)
  have HLQ : Hid (lo ≤ w.heap.size) := Lib.hid (by omega)
  clear hO hB hxs hlo hloq hO2 f0 hk hlen hx
  go_enter Tryz.func158, Tryz.ntmps158
  go_wp2_with fail
  obtain ⟨e1, e2, e3⟩ := HE.out w (Below.refl _ _)
  have hsz : lo ≤ (w.setCell ⟨g, 0, none⟩ (.slice (some ⟨q, 0, none⟩) k cap)).heap.size := by rw [World.size_setCell]; exact HLQ.out
  have b1 := below_alloc1 (w.setCell ⟨g, 0, none⟩ (.slice (some ⟨q, 0, none⟩) k cap)) (.cells #[.int .i64 s, .int .i32 z] 70)
  have b2 := b1.alloc b1.size (.cells #[.int .i64 s, .int .i32 z] 70)
  exact bodyPost_ret (v := .agg #[.int .i64 s, .int .i32 z]) (by simp [results, Tryz.results158, go_sem]) rfl ⟨s, z, rfl, e1, e2.below b2, e3.trans (b2.mono hsz), only_trans (only_setCell (World.grownBy.refl _ _) (.inl rfl) _) (only_of_below b2 (some g))⟩
/-- The top of a stack is taken. -/
theorem pop_last (lo g : Nat) (xs : List (Int × Int)) (s z : Int) (hx : xs.length ≤ 1000) (w : World) (hS : StackAt w lo g (xs ++ [(s, z)])) :
    Calls Tryz.prog 158 #[.pointer (some ⟨g, 0, none⟩)] w fun e w' => e = .returned (.agg #[.int .i64 s, .int .i32 z]) ∧ StackAt w' lo g xs ∧ Below lo w w' ∧ w.grownBy w' (some g) := by
  have ht : (xs ++ [(s, z)]).take xs.length = xs := by simp
  refine (pop_any lo g (xs ++ [(s, z)]) xs.length (by simp) hx w hS).mono ?_
  rintro e w' ⟨s2, z2, rfl, h1, h2, h3, h4⟩
  rw [ht] at h1 h2
  have h5 := List.append_cancel_left h1
  injection h5 with h5 _
  injection h5 with h5 h6
  subst h5 h6
  exact ⟨rfl, h2, h3, h4⟩
end Go.Proofs.YtofikgjoiidhmaaGreatDoor

namespace Go.Proofs.YtofikgjoiidhmaaGreatDoor
open Go.RowKit Go

/-- Only blocks of S have changed. -/
structure ChgS (S : Nat → Prop) (w w' : World) : Prop where
  os : w'.os = w.os
  tape : w'.tape = w.tape
  output : w'.output = w.output
  size : w.heap.size ≤ w'.heap.size
  block : ∀ g, g < w.heap.size → ¬ S g → w'.heap[g]? = w.heap[g]?
theorem ChgS.refl (S : Nat → Prop) (w : World) : ChgS S w w := ⟨rfl, rfl, rfl, Nat.le_refl _, fun _ _ _ => rfl⟩
theorem ChgS.trans {S : Nat → Prop} {a b c : World} (h : ChgS S a b) (k : ChgS S b c) : ChgS S a c :=
  ⟨k.os.trans h.os, k.tape.trans h.tape, k.output.trans h.output, Nat.le_trans h.size k.size, fun g hg hn => (k.block g (Nat.lt_of_lt_of_le hg h.size) hn).trans (h.block g hg hn)⟩
theorem ChgS.mono {S S2 : Nat → Prop} {a b : World} (h : ChgS S a b) (hs : ∀ g, S g → S2 g) : ChgS S2 a b :=
  ⟨h.os, h.tape, h.output, h.size, fun g hg hn => h.block g hg (fun e => hn (hs g e))⟩
theorem ChgS.below {S : Nat → Prop} {a b : World} {B : Nat} (h : ChgS S a b) (hs : ∀ g, S g → B ≤ g) (hB : B ≤ a.heap.size) : Below B a b :=
  ⟨h.os, h.tape, h.output, h.size, fun g hg => h.block g (by omega) (fun e => by have := hs g e; omega)⟩
theorem ChgS.of_below {S : Nat → Prop} {a b : World} (h : Below a.heap.size a b) : ChgS S a b := ⟨h.os, h.tape, h.output, h.size, fun g hg _ => h.block g hg⟩
theorem trv_mid (f : Nat → Value) (i0 : Nat) {xs : List Tr} {i : Nat} (h : i < xs.length) (K N : Int) (c : List Tr) : ((trv f i0 xs).set (i * 3) (.int .i64 K)).set (i * 3 + 1) (.int .i32 N) = trv f i0 (xs.set i (.mk K N c)) := by
  induction xs generalizing i i0 with
  | nil => simp at h
  | cons s r ih =>
    cases i with
    | zero => simp [trv, Tr.k, Tr.n]
    | succ i =>
      have := ih (i0 + 1) (i := i) (by simpa using h)
      rw [show (i + 1) * 3 = i * 3 + 3 by omega, show i * 3 + 3 + 1 = i * 3 + 1 + 3 by omega]
      simpa [trv] using this
theorem PartsT.mark {wr w2 w3 : World} {base g cap : Nat} {xs c2 : List Tr} {S : Nat → Prop} {f : Nat → Value} {bs : Nat → Nat → Prop} {i : Nat} {K N : Int} (P : PartsT wr base (.slice (some ⟨g, 0, none⟩) xs.length cap) xs S f bs) (hi : i < xs.length)
    (hr : w2.ownsRow base 172 3 (.slice (some ⟨g, 0, none⟩) xs.length cap) xs.length (trv f 0 (xs.set i (.mk K N c2)))) (hg : wr.grownBy w2 (some g)) (ho : OwnT w3 base (f i) c2 (bs i)) (hc : ChgS (bs i) w2 w3) :
    PartsT w3 base (.slice (some ⟨g, 0, none⟩) xs.length cap) (xs.set i (.mk K N c2)) S f bs ∧ ChgS S wr w3 := by
  have hgo : (Value.slice (some ⟨g, 0, none⟩) xs.length cap).ownBlock = some g := by simp [Value.ownBlock]
  have hlt : g < w2.heap.size := (World.ownsRow.lt hr g hgo).2
  have hSg : S g := P.sub g (.inl hgo)
  have hSi : ∀ b, bs i b → S b := fun b hb => P.sub b (.inr ⟨i, hi, hb⟩)
  have hz := hg.size
  refine ⟨⟨?_, fun j hj => ?_, fun b hb j hj => P.d1 b hb j (by simpa using hj), fun j l b hj hl => P.d2 j l b (by simpa using hj) (by simpa using hl), fun b hb => P.sub b ?_, fun b hb => ⟨(P.bound b hb).1, by have := (P.bound b hb).2; have := hc.size; omega⟩⟩, ?_⟩
  · rw [List.length_set]
    exact row_same hr (fun b hb => by
      have hb' := hb
      rw [hgo] at hb'
      injection hb' with hb'
      subst hb'
      exact hc.block g hlt (P.d1 g hb i hi))
  · have hj' : j < xs.length := by simpa using hj
    by_cases hij : i = j
    · subst hij
      simp only [List.getElem_set_self, Tr.kids]
      exact ho
    · simp only [List.getElem_set_ne hij]
      refine ((P.kids j hj').kept hz (fun b hb => ?_)).kept hc.size (fun b hb => ?_)
      · exact hg.block b (P.bound b (P.sub b (.inr ⟨j, hj', hb⟩))).2 (fun e => by injection e with e; subst e; exact P.d1 _ hgo j hj' hb)
      · exact hc.block b (by have := (P.bound b (P.sub b (.inr ⟨j, hj', hb⟩))).2; omega) (fun e => P.d2 j i b hj' hi (fun e2 => hij e2.symm) hb e)
  · rcases hb with hb | ⟨j, hj, hb⟩
    · exact .inl hb
    · exact .inr ⟨j, by simpa using hj, hb⟩
  · refine ChgS.trans (b := w2) ⟨hg.os, hg.tape, hg.output, hz, fun b hb hn => hg.block b hb (fun e => by injection e with e; subst e; exact hn hSg)⟩ (hc.mono hSi)
end Go.Proofs.YtofikgjoiidhmaaGreatDoor

namespace Go.Proofs.YtofikgjoiidhmaaGreatDoor
open Go.RowKit Go

def lv (n : Int) : Value := .int .i64 n
/-- A list of numbers that can be read. -/
def RdL (w : World) (v : Value) (xs : List Int) : Prop :=
  ∃ (A : Option Addr) (cap : Nat), v = .slice A xs.length cap ∧ xs.length ≤ 4611686018427387904 ∧ ∀ i (h : i < xs.length), ∃ a, A = some a ∧ a.block < w.heap.size ∧ w.cell? (a.add i) = some (lv xs[i])
theorem RdL.below {w w' : World} {v : Value} {xs : List Int} (h : RdL w v xs) (hb : Below w.heap.size w w') : RdL w' v xs := by
  obtain ⟨A, cap, rfl, hl, hc⟩ := h
  refine ⟨A, cap, rfl, hl, fun i hi => ?_⟩
  obtain ⟨a, rfl, e2, e3⟩ := hc i hi
  exact ⟨a, rfl, by have := hb.size; omega, (hb.cell (by rw [addr_addb]; exact e2)).trans e3⟩
theorem RdL.of_own {w : World} {base : Nat} {e : TypeId} {v : Value} {xs : List Int} (h : w.ownsRow base e 1 v xs.length (xs.map lv)) (hl : xs.length ≤ 4611686018427387904) : RdL w v xs := by
  rcases h.2 with ⟨rfl, h0⟩ | ⟨g, cap, cur, rfl, hb, hg, hn, hm, hsz, ht⟩
  · refine ⟨none, 0, by rw [h0], hl, fun i hi => by omega⟩
  · refine ⟨_, cap, rfl, hl, fun i hi => ⟨⟨g, 0, none⟩, rfl, (Array.getElem?_eq_some_iff.1 hg).1, ?_⟩⟩
    rw [addr_lit, Nat.zero_add, cell_of_row w g i cur e (0, 0) hg]
    have h1 := congrArg (·[i]?) ht
    simpa [List.getElem?_take, hi] using h1
theorem RdL.form {w : World} {v : Value} {xs : List Int} (h : RdL w v xs) : ∃ A cap, v = .slice A xs.length cap := by
  obtain ⟨A, cap, e, -⟩ := h
  exact ⟨A, cap, e⟩
/-- A new list of numbers. -/
def NewL (w : World) (xs : List Int) (e : Ending) (w' : World) : Prop := ∃ v, e = .returned v ∧ w'.ownsRow w.heap.size 3 1 v xs.length (xs.map lv) ∧ Below w.heap.size w w'

/-- n marks, from k on. -/
def marksL (k n : Nat) : List Int := (List.range n).map fun j => ((k + j : Nat) : Int)
theorem marksL_len (k n : Nat) : (marksL k n).length = n := by simp [marksL]
theorem marksL_succ (k i : Nat) : marksL k (i + 1) = marksL k i ++ [((k + i : Nat) : Int)] := by unfold marksL; rw [List.range_succ]; simp
theorem marksL_set {xs : List Int} {k i : Nat} (h : i < xs.length) : ((marksL k i ++ xs.drop i).map lv).set i (.int .i64 ((k : Int) + (i : Int))) = (marksL k (i + 1) ++ xs.drop (i + 1)).map lv := by
  have e : Value.int .i64 ((k : Int) + (i : Int)) = lv ((k + i : Nat) : Int) := by unfold lv; push_cast; rfl
  rw [e, marksL_succ, List.map_append, List.map_append, List.set_append_right _ _ (by simp [marksL_len]), List.length_map, marksL_len, Nat.sub_self, List.drop_eq_getElem_cons h, List.map_cons, List.set_cons_zero]
  simp
/-- Where marking stands: block g holds i marks, then what it held. -/
structure MarkedL (W wr : World) (g : Nat) (n : Nat) (xs : List Int) (k i : Nat) (cap : Nat) (cur : Array Value) : Prop where
  blk : Blk wr g 3 cur
  size : cur.size = cap
  take : cur.toList.take n = (marksL k i ++ xs.drop i).map lv
  grown : W.grownBy wr (some g)
theorem MarkedL.step {W wr : World} {g : Nat} {xs : List Int} {k i cap : Nat} {cur : Array Value} (h : MarkedL W wr g xs.length xs k i cap cur) (hi : i < xs.length) :
    MarkedL W (wr.setCell ⟨g, i, none⟩ (.int .i64 ((k : Int) + (i : Int)))) g xs.length xs k (i + 1) cap (cur.setIfInBounds i (.int .i64 ((k : Int) + (i : Int)))) := by
  refine ⟨h.blk.put _ _, by simpa using h.size, ?_, only_setCell h.grown (.inl rfl) _⟩
  rw [Array.toList_setIfInBounds, List.take_set, h.take, marksL_set hi]
theorem MarkedL.cell {W wr : World} {g n : Nat} {xs : List Int} {k i cap : Nat} {cur : Array Value} (h : MarkedL W wr g n xs k i cap cur) (hi : i < cap) : ∃ u, wr.cell? ⟨g, i, none⟩ = some u ∧ wr.frozen? ⟨g, i, none⟩ = false := by
  have hs := h.size
  exact ⟨cur[i]'(by omega), by rw [h.blk.cell, Array.getElem?_eq_getElem (by omega)], h.blk.frozen i⟩

theorem marksL_get (k n i : Nat) (h : i < (marksL k n).length) : (marksL k n)[i] = (k : Int) + (i : Int) := by simp [marksL]
theorem infoL : (Tryz.prog.info? 3).map (fun i => (i.zero, i.size, i.bytes)) = some (some (.int .i64 0), 1, 8) := by kernel_rfl
def copiedL (xs : List Int) (i : Nat) : List Int := xs.take i ++ List.replicate (xs.length - i) 0
theorem copiedL_len (xs : List Int) (i : Nat) (h : i ≤ xs.length) : (copiedL xs i).length = xs.length := by simp [copiedL]; omega
theorem copiedL_zero (xs : List Int) : (copiedL xs 0).map lv = List.replicate xs.length (.int .i64 0) := by simp [copiedL, lv]
theorem copiedL_full (xs : List Int) : copiedL xs xs.length = xs := by simp [copiedL]
theorem copiedL_set {xs : List Int} {i : Nat} (h : i < xs.length) : ((copiedL xs i).map lv).set i (.int .i64 xs[i]) = (copiedL xs (i + 1)).map lv := by
  have e : Value.int .i64 xs[i] = lv xs[i] := rfl
  rw [e, List.map_set.symm]
  congr 1
  unfold copiedL
  obtain ⟨m, hm⟩ : ∃ m, xs.length - i = m + 1 := ⟨xs.length - i - 1, by omega⟩
  rw [hm, show xs.length - (i + 1) = m by omega, List.replicate_succ, List.set_append_right _ _ (by simp; omega)]
  have : i - (xs.take i).length = 0 := by simp; omega
  rw [this, List.set_cons_zero, List.take_succ_eq_append_getElem h, List.append_assoc]
  rfl

end Go.Proofs.YtofikgjoiidhmaaGreatDoor
