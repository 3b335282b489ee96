/-
  What becomes of a state whose rows are changed one by one.
-/
import Derived.Test.YtlkkobffgbjkpaaStPut
import Derived.Test.YtlkkobffgbjkpaaAppend
namespace Go.Proofs.Ytlkkobffgbjkpaa
open Go.RowKit Go

section
variable {w w' : World} {lo hi : Nat} {d r m c v o i : Value} {S : S8}
theorem OwnSt.alloc (h : OwnSt w lo hi d r m c v o i S) (ob : Obj) : OwnSt (w.alloc ob) lo hi d r m c v o i S := h.keep (below_alloc w ob)
theorem OwnSt.setCell (h : OwnSt w lo hi d r m c v o i S) {p : Addr} (hp : p.block < lo ∨ hi ≤ p.block) (u : Value) : OwnSt (w.setCell p u) lo hi d r m c v o i S :=
  h.same fun k h1 h2 _ => Below.heap_setCell w p u k (by rintro rfl; omega)
theorem OwnSt.setSt (h : OwnSt w lo hi d r m c v o i S) {g : Nat} (hp : g < lo ∨ hi ≤ g) (x0 x1 x2 x3 x4 x5 x6 x7 x8 x9 : Value) : OwnSt (putSt w g x0 x1 x2 x3 x4 x5 x6 x7 x8 x9) lo hi d r m c v o i S :=
  h.same fun k h1 h2 h3 => (putSt_only w g x0 x1 x2 x3 x4 x5 x6 x7 x8 x9).block k h3 (fun e => by injection e with e; omega)
theorem OwnSt.scal (h : OwnSt w lo hi d r m c v o i S) (a f u : Int) : OwnSt w lo hi d r m c v o i { S with a := a, fault := f, fuel := u } := ⟨h.top, h.dm, h.oi, h.d, h.r, h.m, h.c, h.v, h.o, h.i⟩
theorem own_prefix {e : TypeId} {A : Option Addr} {N cap n : Nat} {xs : List Value} (h : w.ownsRow lo e 1 (.slice A N cap) N xs) (hn : n ≤ N) : w.ownsRow lo e 1 (.slice A n cap) n (xs.take n) := by
  have hl := h.1
  refine ⟨by rw [List.length_take]; omega, ?_⟩
  rcases h.2 with ⟨e1, h0⟩ | ⟨g, cp, cur, e1, hb, hg, hnc, hm, hsz, ht⟩
  · injection e1 with e1 e2 e3
    subst e1 e3
    exact .inl ⟨by rw [show n = 0 by omega], by omega⟩
  · injection e1 with e1 e2 e3
    subst e1 e3
    refine .inr ⟨g, cap, cur, rfl, hb, hg, by omega, hm, hsz, ?_⟩
    rw [← ht, List.take_take]
    congr 1
    omega
theorem own_block {A : Option Addr} {N cap n : Nat} : (Value.slice A n cap).ownBlock = (Value.slice A N cap).ownBlock := by cases A <;> rfl
/-- A store into a box that is none of the rows. -/
theorem OwnSt.atBox (h : OwnSt w lo hi d r m c v o i S) {g : Nat} {t : TypeId} {cs : Array Value} (hk : Blk w g t cs) (hg : w.grownBy w' (some g)) (h1 : t ≠ 21) (h2 : t ≠ 109) (h3 : t ≠ 144) (h4 : t ≠ 3) (h5 : t ≠ 5) : OwnSt w' lo hi d r m c v o i S := by
  have K : ∀ {e : TypeId} {size n : Nat} {x : Value} {xs : List Value}, w.ownsRow lo e size x n xs → t ≠ e → w'.ownsRow lo e size x n xs := fun ho ht => ho.kept hg (.inr fun e => box_neG hk ho ht e.symm)
  exact ⟨h.top, h.dm, h.oi, K h.d h1, K h.r h2, K h.m h1, K h.c h3, K h.v h4, K h.o h5, h.i.kept hg (.inr fun e => box_neT hk h.i h5 e.symm)⟩
/-- The data row is another one; what changed lies in the old one or in new memory. -/
theorem OwnSt.data (h : OwnSt w lo hi d r m c v o i S) (hh : hi ≤ w.heap.size) {d' : Value} {l : List Int} (hd : w'.ownsRow lo 21 1 d' l.length (l.map iv)) (hg : w.grownBy w' d.ownBlock) (hb : ∀ k, d'.ownBlock = some k → d.ownBlock = some k ∨ w.heap.size ≤ k) : OwnSt w' lo w'.heap.size d' r m c v o i { S with data := l } := by
  have K : ∀ {e : TypeId} {size n : Nat} {x : Value} {xs : List Value}, w.ownsRow lo e size x n xs → (x.ownBlock = none ∨ x.ownBlock ≠ d.ownBlock) → w'.ownsRow lo e size x n xs := fun ho hne => ho.kept hg hne
  have hm := K h.m (apart_sym h.dm)
  refine OwnSt.of7T (S := { S with data := l }) hd (K h.r (rows_ne h.r h.d (by decide))) hm (K h.c (rows_ne h.c h.d (by decide))) (K h.v (rows_ne h.v h.d (by decide))) (K h.o (rows_ne h.o h.d (by decide))) (h.i.kept hg (tail_ne h.i h.d (by decide))) ?_ h.oi
  cases hq : d'.ownBlock with
  | none => exact .inl rfl
  | some k =>
    refine .inr fun e => ?_
    rcases hb k hq with h1 | h1
    · rcases h.dm with h2 | h2
      · rw [h1] at h2; cases h2
      · exact h2 (h1.trans e)
    · have := h.top m (by simp) k e.symm
      omega
theorem AppAlt.where_ {n k2 : Nat} {d' : Value} (h : AppAlt w w' d d' n k2) : ∀ k, d'.ownBlock = some k → d.ownBlock = some k ∨ w.heap.size ≤ k := by
  intro k hk
  rcases h with ⟨g, cap, rfl, -, rfl, -⟩ | ⟨-, h⟩
  · exact .inl hk
  · exact .inr (h k hk)
end
/-- A state handed back. -/
theorem newst_of {w W : World} {lo hi : Nat} {d r m c v o i : Value} {S : S8} (h : OwnSt W lo hi d r m c v o i S) (h1 : w.heap.size ≤ lo) (h2 : hi ≤ W.heap.size) (hb : Below w.heap.size w W) :
    NewSt w S (.returned (.agg #[d, r, .int .i32 S.a, m, c, v, o, i, .int .i64 S.fault, .int .i64 S.fuel])) W := ⟨d, r, m, c, v, o, i, rfl, h.mono h1 h2, hb⟩
end Go.Proofs.Ytlkkobffgbjkpaa
