/-
  Lists of trees in memory: ones that can be read, ones that are a call's own.
-/
import Derived.Test.YtlkkobffgbjkpaaTreeMath
import Derived.Test.YtlkkobffgbjkpaaAppend
import Derived.Test.YtlkkobffgbjkpaaI32
import Derived.Test.YtlkkobffgbjkpaaExKit
namespace Go.Proofs.Ytlkkobffgbjkpaa
open Go.RowKit Go

/-- The cells of a list of trees, whose kids' lists are f's values. -/
def trv (f : Nat → Value) : Nat → List Tr → List Value
  | _, [] => []
  | i, t :: r => .int .i64 t.k :: .int .i32 t.n :: f i :: trv f (i + 1) r
theorem trv_len (f : Nat → Value) (i : Nat) (xs : List Tr) : (trv f i xs).length = xs.length * 3 := by
  induction xs generalizing i with
  | nil => rfl
  | cons s r ih => simp only [trv, List.length_cons, ih]; omega
theorem trv_app (f : Nat → Value) (i : Nat) (xs ys : List Tr) : trv f i (xs ++ ys) = trv f i xs ++ trv f (i + xs.length) ys := by
  induction xs generalizing i with
  | nil => simp [trv]
  | cons s r ih => simp only [trv, List.cons_append, List.length_cons, ih]; rw [show i + 1 + r.length = i + (r.length + 1) by omega]
theorem trv_congr {f f2 : Nat → Value} {i : Nat} {xs : List Tr} (h : ∀ j, j < xs.length → f (i + j) = f2 (i + j)) : trv f i xs = trv f2 i xs := by
  induction xs generalizing i with
  | nil => rfl
  | cons s r ih =>
    have h0 := h 0 (by simp)
    simp only [Nat.add_zero] at h0
    simp only [trv, h0]
    rw [ih (fun j hj => by have := h (j + 1) (by simpa using hj); rwa [show i + (j + 1) = i + 1 + j by omega] at this)]
theorem trv_get {f : Nat → Value} {i0 : Nat} {xs : List Tr} {i : Nat} (h : i < xs.length) : (trv f i0 xs)[i * 3]? = some (.int .i64 xs[i].k) ∧ (trv f i0 xs)[i * 3 + 1]? = some (.int .i32 xs[i].n) ∧ (trv f i0 xs)[i * 3 + 2]? = some (f (i0 + i)) := by
  induction xs generalizing i i0 with
  | nil => simp at h
  | cons s r ih =>
    cases i with
    | zero => simp [trv]
    | succ i =>
      have := ih (i0 := i0 + 1) (i := i) (by simpa using h)
      rw [show (i + 1) * 3 = i * 3 + 3 by omega, show i * 3 + 3 + 1 = i * 3 + 1 + 3 by omega, show i * 3 + 3 + 2 = i * 3 + 2 + 3 by omega]
      rw [show i0 + 1 + i = i0 + (i + 1) by omega] at this
      simpa [trv] using this
theorem trv_one {f : Nat → Value} {i : Nat} {xs : List Tr} (hf : ∀ j, (f j).oneCell' = true) : ∀ u ∈ trv f i xs, u.oneCell' = true := by
  induction xs generalizing i with
  | nil => intro u hu; cases hu
  | cons s r ih =>
    intro u hu
    simp only [trv, List.mem_cons] at hu
    rcases hu with rfl | rfl | rfl | hu
    · rfl
    · rfl
    · exact hf i
    · exact ih u hu
/-- A list of trees that can be read. -/
inductive RdT (w : World) : Value → List Tr → Prop
  | mk (A : Option Addr) (cap : Nat) (xs : List Tr) (f : Nat → Value)
    (h1 : ∀ i (h : i < xs.length), ∃ a, A = some a ∧ a.block < w.heap.size ∧ w.cell? (a.add (i * 3)) = some (.int .i64 xs[i].k) ∧ w.cell? ((a.add (i * 3)).add 1) = some (.int .i32 xs[i].n) ∧ w.cell? ((a.add (i * 3)).add 2) = some (f i))
    (h2 : ∀ i (h : i < xs.length), RdT w (f i) xs[i].kids) : RdT w (.slice A xs.length cap) xs
theorem RdT.form {w : World} {v : Value} {xs : List Tr} (h : RdT w v xs) : ∃ A cap, v = .slice A xs.length cap := by
  cases h with
  | mk A cap xs f h1 h2 => exact ⟨A, cap, rfl⟩
theorem RdT.stay {w w' : World} {v : Value} {xs : List Tr} (h : RdT w v xs) (hb : Below w.heap.size w w') : RdT w' v xs := by
  induction h with
  | mk A cap xs f h1 h2 ih =>
    refine .mk A cap xs f (fun i hi => ?_) ih
    obtain ⟨a, rfl, e2, e3, e4, e5⟩ := h1 i hi
    exact ⟨a, rfl, by have := hb.size; omega, (hb.cell (by rw [addr_addb]; exact e2)).trans e3, (hb.cell (by rw [addr_addb, addr_addb]; exact e2)).trans e4, (hb.cell (by rw [addr_addb, addr_addb]; exact e2)).trans e5⟩
theorem RdT.nil (w : World) (A : Option Addr) (cap : Nat) : RdT w (.slice A 0 cap) [] := .mk A cap [] (fun _ => .slice none 0 0) (fun i h => absurd h (by simp)) (fun i h => absurd h (by simp))
/-- One tree of a list, as the walk spells its cells. -/
theorem RdT.item {w : World} {A : Option Addr} {n cap : Nat} {xs : List Tr} (h : RdT w (.slice A n cap) xs) {i : Nat} (hi : i < xs.length) : ∃ a B m bc, A = some a ∧ a.block < w.heap.size ∧ w.cell? (a.add (i * 3)) = some (.int .i64 xs[i].k) ∧ w.cell? ⟨(a.add (i * 3)).block, (a.add (i * 3)).off + 1, none⟩ = some (.int .i32 xs[i].n) ∧ w.cell? ⟨(a.add (i * 3)).block, (a.add (i * 3)).off + 2, none⟩ = some (.slice B m bc) ∧ RdT w (.slice B m bc) xs[i].kids ∧ m = xs[i].kids.length := by
  generalize hv : Value.slice A n cap = v at h
  cases h with
  | mk A3 c3 xs f h1 h2 =>
    injection hv with e1 e2 e3
    subst e1
    obtain ⟨a, rfl, hb, q0, q1, q2⟩ := h1 i hi
    have r := h2 i hi
    obtain ⟨B, bc, hf⟩ := r.form
    rw [hf] at q2 r
    exact ⟨a, B, _, bc, rfl, hb, q0, q1, q2, r, rfl⟩
theorem RdT.len {w : World} {A : Option Addr} {n cap : Nat} {xs : List Tr} (h : RdT w (.slice A n cap) xs) : n = xs.length := by
  obtain ⟨A2, c2, e⟩ := h.form
  injection e
/-- A list of trees that is a call's own: rows above base, no two of them one; all their blocks are in S. -/
inductive OwnT (w : World) (base : Nat) : Value → List Tr → (Nat → Prop) → Prop
  | mk (v : Value) (xs : List Tr) (S : Nat → Prop) (f : Nat → Value) (bs : Nat → Nat → Prop)
    (h1 : w.ownsRow base 83 3 v xs.length (trv f 0 xs))
    (h2 : ∀ i (h : i < xs.length), OwnT w base (f i) xs[i].kids (bs i))
    (d1 : ∀ g, v.ownBlock = some g → ∀ i, i < xs.length → ¬ bs i g)
    (d2 : ∀ i j g, i < xs.length → j < xs.length → i ≠ j → bs i g → ¬ bs j g)
    (hS : ∀ g, (v.ownBlock = some g ∨ ∃ i, i < xs.length ∧ bs i g) → S g)
    (hb : ∀ g, S g → base ≤ g ∧ g < w.heap.size) : OwnT w base v xs S
/-- The parts of a list of trees that is a call's own. -/
structure PartsT (w : World) (base : Nat) (v : Value) (xs : List Tr) (S : Nat → Prop) (f : Nat → Value) (bs : Nat → Nat → Prop) : Prop where
  row : w.ownsRow base 83 3 v xs.length (trv f 0 xs)
  kids : ∀ i (h : i < xs.length), OwnT w base (f i) xs[i].kids (bs i)
  d1 : ∀ g, v.ownBlock = some g → ∀ i, i < xs.length → ¬ bs i g
  d2 : ∀ i j g, i < xs.length → j < xs.length → i ≠ j → bs i g → ¬ bs j g
  sub : ∀ g, (v.ownBlock = some g ∨ ∃ i, i < xs.length ∧ bs i g) → S g
  bound : ∀ g, S g → base ≤ g ∧ g < w.heap.size
theorem OwnT.parts {w : World} {base : Nat} {v : Value} {xs : List Tr} {S : Nat → Prop} (h : OwnT w base v xs S) : ∃ f bs, PartsT w base v xs S f bs := by
  cases h with
  | mk v xs S f bs h1 h2 d1 d2 hS hb => exact ⟨f, bs, h1, h2, d1, d2, hS, hb⟩
theorem PartsT.own {w : World} {base : Nat} {v : Value} {xs : List Tr} {S : Nat → Prop} {f : Nat → Value} {bs : Nat → Nat → Prop} (h : PartsT w base v xs S f bs) : OwnT w base v xs S := .mk v xs S f bs h.row h.kids h.d1 h.d2 h.sub h.bound
theorem row_same {w w' : World} {base size : Nat} {e : TypeId} {v : Value} {n : Nat} {xs : List Value} (h : w.ownsRow base e size v n xs) (hk : ∀ g, v.ownBlock = some g → w'.heap[g]? = w.heap[g]?) : w'.ownsRow base e size v n xs := by
  refine ⟨h.1, ?_⟩
  rcases h.2 with hn | ⟨g, cap, cur, rfl, hb, hgg, rest⟩
  · exact .inl hn
  · refine .inr ⟨g, cap, cur, rfl, hb, ?_, rest⟩
    rw [hk g (by simp [Value.ownBlock])]
    exact hgg
theorem OwnT.kept {w w' : World} {base : Nat} {v : Value} {xs : List Tr} {S : Nat → Prop} (h : OwnT w base v xs S) (hz : w.heap.size ≤ w'.heap.size) (hk : ∀ g, S g → w'.heap[g]? = w.heap[g]?) : OwnT w' base v xs S := by
  induction h with
  | mk v xs S f bs h1 h2 d1 d2 hS hb ih =>
    exact .mk v xs S f bs (row_same h1 fun g hg => hk g (hS g (.inl hg))) (fun i hi => ih i hi (fun g hg => hk g (hS g (.inr ⟨i, hi, hg⟩)))) d1 d2 hS (fun g hg => ⟨(hb g hg).1, Nat.lt_of_lt_of_le (hb g hg).2 hz⟩)
theorem OwnT.bound {w : World} {base : Nat} {v : Value} {xs : List Tr} {S : Nat → Prop} (h : OwnT w base v xs S) : ∀ g, S g → base ≤ g ∧ g < w.heap.size := by
  obtain ⟨f, bs, p⟩ := h.parts
  exact p.bound
theorem OwnT.stay {w w' : World} {base : Nat} {v : Value} {xs : List Tr} {S : Nat → Prop} (h : OwnT w base v xs S) (hb : Below w.heap.size w w') : OwnT w' base v xs S := h.kept hb.size (fun g hg => hb.block g (h.bound g hg).2)
theorem OwnT.mono {w : World} {base b2 : Nat} {v : Value} {xs : List Tr} {S : Nat → Prop} (h : OwnT w base v xs S) (hb : b2 ≤ base) : OwnT w b2 v xs S := by
  induction h with
  | mk v xs S f bs h1 h2 d1 d2 hS hb2 ih => exact .mk v xs S f bs (h1.mono hb) ih d1 d2 hS (fun g hg => ⟨Nat.le_trans hb (hb2 g hg).1, (hb2 g hg).2⟩)
theorem OwnT.nil (w : World) (base : Nat) : OwnT w base (.slice none 0 0) [] (fun _ => False) :=
  .mk _ [] _ (fun _ => .slice none 0 0) (fun _ _ => False) (World.ownsRow_nil _ _ _ _) (fun i h => absurd h (by simp)) (fun g h => by simp [Value.ownBlock] at h) (fun i j g h => absurd h (by simp)) (fun g h => by
    rcases h with h | ⟨i, hi, -⟩
    · simp [Value.ownBlock] at h
    · simp at hi) (fun g h => h.elim)
/-- Room for none. -/
theorem OwnT.empty {w : World} {base : Nat} {v : Value} (h : w.ownsRow base 83 3 v 0 []) : OwnT w base v [] (fun g => v.ownBlock = some g) :=
  .mk _ [] _ (fun _ => .slice none 0 0) (fun _ _ => False) h (fun i h => absurd h (by simp)) (fun g hg i h => absurd h (by simp)) (fun i j g h => absurd h (by simp)) (fun g hg => by
    rcases hg with hg | ⟨i, hi, -⟩
    · exact hg
    · simp at hi) (fun g hg => World.ownsRow.lt h g hg)
theorem OwnT.rd {w : World} {base : Nat} {v : Value} {xs : List Tr} {S : Nat → Prop} (h : OwnT w base v xs S) : RdT w v xs := by
  induction h with
  | mk v xs S f bs h1 h2 d1 d2 hS hb ih =>
    rcases h1.2 with ⟨rfl, h0⟩ | ⟨g, cap, cur, rfl, hbg, hg, hn, hm, hsz, ht⟩
    · obtain rfl : xs = [] := List.eq_nil_of_length_eq_zero h0
      exact RdT.nil w none 0
    · refine .mk (some ⟨g, 0, none⟩) cap xs f (fun i hi => ⟨⟨g, 0, none⟩, rfl, (Array.getElem?_eq_some_iff.1 hg).1, ?_, ?_, ?_⟩) ih
      all_goals
        have h3 := trv_get (f := f) (i0 := 0) hi
        rw [Nat.zero_add] at h3
      · rw [addr_lit, Nat.zero_add, cell_of_row w g (i * 3) cur _ (0, 0) hg]
        have e := congrArg (·[i * 3]?) ht
        simp only [h3.1, List.getElem?_take] at e
        rw [if_pos (by omega)] at e
        simpa using e
      · rw [addr_lit, Nat.zero_add, addr_lit, cell_of_row w g (i * 3 + 1) cur _ (0, 0) hg]
        have e := congrArg (·[i * 3 + 1]?) ht
        simp only [h3.2.1, List.getElem?_take] at e
        rw [if_pos (by omega)] at e
        simpa using e
      · rw [addr_lit, Nat.zero_add, addr_lit, cell_of_row w g (i * 3 + 2) cur _ (0, 0) hg]
        have e := congrArg (·[i * 3 + 2]?) ht
        simp only [h3.2.2, List.getElem?_take] at e
        rw [if_pos (by omega)] at e
        simpa using e
/-- One more tree behind a list, whose row lies where it lay or in new memory. -/
theorem PartsT.push {W w' : World} {base : Nat} {v v' kv : Value} {xs kids : List Tr} {S S2 : Nat → Prop} {f : Nat → Value} {bs : Nat → Nat → Prop} {k n : Int} (h : PartsT W base v xs S f bs) (hk : OwnT W base kv kids S2) (hd : ∀ g, S g → ¬ S2 g)
    (ho : w'.ownsRow base 83 3 v' (xs.length + 1) (trv f 0 xs ++ [.int .i64 k, .int .i32 n, kv])) (ha : AppAlt W w' v v' xs.length 1) : OwnT w' base v' (xs ++ [.mk k n kids]) (fun g => S g ∨ S2 g ∨ v'.ownBlock = some g) := by
  have hgr := ha.grown
  have hsame : ∀ g, v.ownBlock ≠ some g → g < W.heap.size → w'.heap[g]? = W.heap[g]? := fun g hg hlt => hgr.block g hlt (fun e => hg e.symm)
  have hz := hgr.size
  have hv' : ∀ g, v'.ownBlock = some g → v.ownBlock = some g ∨ W.heap.size ≤ g := fun g hg => by
    rcases ha with ⟨g2, cap, rfl, -, rfl, -⟩ | ⟨-, h2⟩
    · left; simpa [Value.ownBlock] using hg
    · right; exact h2 g hg
  have hbs : ∀ i, i < xs.length → ∀ g, bs i g → S g := fun i hi g hg => h.sub g (.inr ⟨i, hi, hg⟩)
  refine .mk v' _ _ (fun i => if i < xs.length then f i else kv) (fun i => if i < xs.length then bs i else S2) ?_ (fun i hi => ?_) (fun g hg i hi => ?_) (fun i j g hi hj hij hgi => ?_) (fun g hg => ?_) (fun g hg => ?_)
  · have e : trv (fun i => if i < xs.length then f i else kv) 0 (xs ++ [.mk k n kids]) = trv f 0 xs ++ [.int .i64 k, .int .i32 n, kv] := by
      rw [trv_app, Nat.zero_add]
      simp only [trv, Nat.lt_irrefl, if_false, Tr.k, Tr.n]
      rw [trv_congr (f2 := f) (fun j hj => by rw [Nat.zero_add, if_pos hj])]
    rw [e, List.length_append]
    exact ho
  · by_cases hl : i < xs.length
    · simp only [if_pos hl, List.getElem_append_left hl]
      exact (h.kids i hl).kept hz (fun g hg => hsame g (fun e => h.d1 g e i hl hg) (h.bound g (hbs i hl g hg)).2)
    · obtain rfl : i = xs.length := by simp at hi; omega
      simp only [Nat.lt_irrefl, if_false, List.getElem_append_right (Nat.le_refl _), Nat.sub_self, List.getElem_cons_zero, Tr.kids]
      exact hk.kept hz (fun g hg => hsame g (fun e => hd g (h.sub g (.inl e)) hg) (hk.bound g hg).2)
  · by_cases hl : i < xs.length
    · simp only [if_pos hl]
      intro hgi
      rcases hv' g hg with e | e
      · exact h.d1 g e i hl hgi
      · have := (h.bound g (hbs i hl g hgi)).2; omega
    · simp only [if_neg hl]
      intro hgi
      rcases hv' g hg with e | e
      · exact hd g (h.sub g (.inl e)) hgi
      · have := (hk.bound g hgi).2; omega
  · simp only [List.length_append, List.length_cons, List.length_nil] at hi hj
    by_cases hl : i < xs.length
    · simp only [if_pos hl] at hgi
      by_cases hl2 : j < xs.length
      · simp only [if_pos hl2]; exact h.d2 i j g hl hl2 hij hgi
      · simp only [if_neg hl2]; exact hd g (hbs i hl g hgi)
    · simp only [if_neg hl] at hgi
      by_cases hl2 : j < xs.length
      · simp only [if_pos hl2]; exact fun h3 => hd g (hbs j hl2 g h3) hgi
      · omega
  · rcases hg with hg | ⟨i, hi, hgi⟩
    · exact .inr (.inr hg)
    · by_cases hl : i < xs.length
      · simp only [if_pos hl] at hgi; exact .inl (hbs i hl g hgi)
      · simp only [if_neg hl] at hgi; exact .inr (.inl hgi)
  · rcases hg with hg | hg | hg
    · have := h.bound g hg; exact ⟨this.1, by omega⟩
    · have := hk.bound g hg; exact ⟨this.1, by omega⟩
    · exact World.ownsRow.lt ho g hg
end Go.Proofs.Ytlkkobffgbjkpaa
