/-
  The machine's state in memory, as one bundle of seven lists and three numbers: what can be read, what is owned, what is kept.
-/
import Derived.Test.YtlkkobffgbjkpaaI32
import Derived.Test.YtlkkobffgbjkpaaI64
import Derived.Test.YtlkkobffgbjkpaaB8
import Derived.Test.YtlkkobffgbjkpaaTailB
import Derived.Test.YtlkkobffgbjkpaaSlotW
import Derived.Test.YtlkkobffgbjkpaaStMath
namespace Go.Proofs.Ytlkkobffgbjkpaa
open Go.RowKit Go

/-- A state's lists can be read. -/
structure RdSt (w : World) (d r m c v o i : Value) (S : S8) : Prop where
  k : CapOk v
  d : RdI w d S.data
  r : RdS w r S.ret
  m : RdI w m S.mem
  c : RdN w c S.cells
  v : RdL w v S.vars
  o : RdM w o S.out
  i : RdM w i S.inp
theorem RdSt.below {w w' : World} {d r m c v o i : Value} {S : S8} (h : RdSt w d r m c v o i S) (hb : Below w.heap.size w w') : RdSt w' d r m c v o i S :=
  ⟨h.k, h.d.below hb, h.r.below hb, h.m.below hb, h.c.below hb, h.v.below hb, h.o.below hb, h.i.below hb⟩
theorem RdSt.form {w : World} {d r m c v o i : Value} {S : S8} (h : RdSt w d r m c v o i S) :
    (∃ A k, d = .slice A S.data.length k) ∧ (∃ A k, r = .slice A S.ret.length k) ∧ (∃ A k, m = .slice A S.mem.length k) ∧ (∃ A k, c = .slice A S.cells.length k) ∧ (∃ A k, v = .slice A S.vars.length k) ∧ (∃ A k, o = .slice A S.out.length k) ∧ (∃ A k, i = .slice A S.inp.length k) :=
  ⟨h.d.form, h.r.form, h.m.form, h.c.form, h.v.form, h.o.form, h.i.form⟩

/-- Nothing but the blocks from lo to hi (and new ones) has changed. -/
structure Kept (lo hi : Nat) (w w' : World) : Prop where
  os : w'.os = w.os
  tape : w'.tape = w.tape
  output : w'.output = w.output
  size : w.heap.size ≤ w'.heap.size
  block : ∀ k, k < w.heap.size → (k < lo ∨ hi ≤ k) → w'.heap[k]? = w.heap[k]?
theorem Kept.refl (lo hi : Nat) (w : World) : Kept lo hi w w := ⟨rfl, rfl, rfl, Nat.le_refl _, fun _ _ _ => rfl⟩
theorem Kept.trans {lo hi : Nat} {a b c : World} (h : Kept lo hi a b) (k : Kept lo hi b c) : Kept lo hi a c :=
  ⟨k.os.trans h.os, k.tape.trans h.tape, k.output.trans h.output, Nat.le_trans h.size k.size, fun i hi h2 => (k.block i (Nat.lt_of_lt_of_le hi h.size) h2).trans (h.block i hi h2)⟩
theorem Kept.below {lo hi : Nat} {w w' : World} (h : Kept lo hi w w') {B : Nat} (hB : B ≤ lo) (hw : B ≤ w.heap.size) : Below B w w' :=
  ⟨h.os, h.tape, h.output, h.size, fun k hk => h.block k (by omega) (.inl (by omega))⟩
theorem Kept.of_below {lo hi : Nat} {w w' : World} (h : Below w.heap.size w w') : Kept lo hi w w' := ⟨h.os, h.tape, h.output, h.size, fun k hk _ => h.block k hk⟩
theorem Kept.of_grown {lo hi : Nat} {w w' : World} {row : Option Nat} (h : w.grownBy w' row) (hr : ∀ k, row = some k → lo ≤ k ∧ k < hi) : Kept lo hi w w' :=
  ⟨h.os, h.tape, h.output, h.size, fun k hk h2 => h.block k hk (fun e => by have := hr k e.symm; omega)⟩
theorem own_same {w w' : World} {base size : Nat} {e : TypeId} {v : Value} {n : Nat} {xs : List Value} (h : w.ownsRow base e size v n xs) (hb : ∀ k, v.ownBlock = some k → w'.heap[k]? = w.heap[k]?) : w'.ownsRow base e size v n xs := by
  refine ⟨h.1, ?_⟩
  rcases h.2 with h0 | ⟨g, cap, cur, rfl, h1, h2, h3⟩
  · exact .inl h0
  · exact .inr ⟨g, cap, cur, rfl, h1, (hb g rfl).trans h2, h3⟩
theorem Blk.kept {lo hi : Nat} {w w' : World} {g : Nat} {t : TypeId} {cs : Array Value} (h : Blk w g t cs) (hk : Kept lo hi w w') (hg : g < lo ∨ hi ≤ g) : Blk w' g t cs := (hk.block g h.lt hg).trans h
/-- Two rows of unlike elements lie apart. -/
theorem rows_ne {w : World} {b1 b2 s1 s2 n1 n2 : Nat} {e1 e2 : TypeId} {u v : Value} {xs ys : List Value} (h1 : w.ownsRow b1 e1 s1 u n1 xs) (h2 : w.ownsRow b2 e2 s2 v n2 ys) (he : e1 ≠ e2) : u.ownBlock = none ∨ u.ownBlock ≠ v.ownBlock := by
  rcases h1.2 with ⟨rfl, -⟩ | ⟨g, cap, cur, rfl, -, hg, -⟩
  · exact .inl rfl
  · rcases h2.2 with ⟨rfl, -⟩ | ⟨q, cap2, cur2, rfl, -, hq, -⟩
    · exact .inr (by simp [Value.ownBlock])
    · refine .inr fun e => ?_
      have e : g = q := by simpa [Value.ownBlock] using e
      subst e
      rw [hg] at hq
      injection hq with h1
      injection h1 with _ h2
      exact he h2

/-- A state's lists are owned: each lies in a block of its own, from lo to hi. -/
structure OwnSt (w : World) (lo hi : Nat) (d r m c v o i : Value) (S : S8) : Prop where
  top : ∀ x ∈ [d, r, m, c, v, o, i], ∀ k, x.ownBlock = some k → k < hi
  dm : d.ownBlock = none ∨ d.ownBlock ≠ m.ownBlock
  oi : o.ownBlock = none ∨ o.ownBlock ≠ i.ownBlock
  d : w.ownsRow lo 21 1 d S.data.length (S.data.map iv)
  r : w.ownsRow lo 109 2 r S.ret.length (slv S.ret)
  m : w.ownsRow lo 21 1 m S.mem.length (S.mem.map iv)
  c : w.ownsRow lo 144 1 c S.cells.length (S.cells.map u32v)
  v : w.ownsRow lo 3 1 v S.vars.length (S.vars.map lv)
  o : w.ownsRow lo 5 1 o S.out.length (S.out.map b8v)
  i : TailB w lo 5 i S.inp.length (S.inp.map b8v)
theorem totSt_small {S : S8} (h : totSt S ≤ 4000000) : S.data.length ≤ 4000000 ∧ S.ret.length ≤ 4000000 ∧ S.mem.length ≤ 4000000 ∧ S.cells.length ≤ 4000000 ∧ S.vars.length ≤ 4000000 ∧ S.out.length ≤ 4000000 ∧ S.inp.length ≤ 4000000 := by
  unfold totSt at h
  omega
section
variable {w w' : World} {lo hi : Nat} {d r m c v o i : Value} {S : S8}
theorem OwnSt.rd (h : OwnSt w lo hi d r m c v o i S) (hs : totSt S ≤ 4000000) : RdSt w d r m c v o i S := by
  obtain ⟨s1, s2, s3, s4, s5, s6, s7⟩ := totSt_small hs
  exact ⟨own_cap h.v, .of_own h.d (by omega), .of_own h.r (by omega), .of_own h.m (by omega), .of_own h.c (by omega), .of_own h.v (by omega), .of_own h.o (by omega), .of_tail h.i (by omega)⟩
theorem OwnSt.same (h : OwnSt w lo hi d r m c v o i S) (hb : ∀ k, lo ≤ k → k < hi → k < w.heap.size → w'.heap[k]? = w.heap[k]?) : OwnSt w' lo hi d r m c v o i S := by
  have K : ∀ {e : TypeId} {size n : Nat} {x : Value} {xs : List Value}, x ∈ [d, r, m, c, v, o, i] → w.ownsRow lo e size x n xs → w'.ownsRow lo e size x n xs := fun hx ho => own_same ho fun k hk => hb k (World.ownsRow.lt ho k hk).1 (h.top _ hx k hk) (World.ownsRow.lt ho k hk).2
  exact ⟨h.top, h.dm, h.oi, K (by simp) h.d, K (by simp) h.r, K (by simp) h.m, K (by simp) h.c, K (by simp) h.v, K (by simp) h.o, tail_same h.i fun k hk => hb k (h.i.lt k hk).1 (h.top _ (by simp) k hk) (h.i.lt k hk).2⟩
theorem OwnSt.below (h : OwnSt w lo hi d r m c v o i S) {B : Nat} (hb : Below B w w') (hB : hi ≤ B) : OwnSt w' lo hi d r m c v o i S := h.same fun k _ h2 _ => hb.block k (by omega)
theorem OwnSt.keep (h : OwnSt w lo hi d r m c v o i S) (hb : Below w.heap.size w w') : OwnSt w' lo hi d r m c v o i S := h.same fun k _ _ h3 => hb.block k h3
theorem OwnSt.kept (h : OwnSt w lo hi d r m c v o i S) {l2 h2 : Nat} (hk : Kept l2 h2 w w') (hd : hi ≤ l2 ∨ h2 ≤ lo) : OwnSt w' lo hi d r m c v o i S := h.same fun k h3 h4 h5 => hk.block k h5 (by omega)
theorem OwnSt.form (h : OwnSt w lo hi d r m c v o i S) (hs : totSt S ≤ 4000000) :
    (∃ A k, d = .slice A S.data.length k) ∧ (∃ A k, r = .slice A S.ret.length k) ∧ (∃ A k, m = .slice A S.mem.length k) ∧ (∃ A k, c = .slice A S.cells.length k) ∧ (∃ A k, v = .slice A S.vars.length k) ∧ (∃ A k, o = .slice A S.out.length k) ∧ (∃ A k, i = .slice A S.inp.length k) := (h.rd hs).form
theorem OwnSt.mono (h : OwnSt w lo hi d r m c v o i S) {l2 h2 : Nat} (hl : l2 ≤ lo) (hh : hi ≤ h2) : OwnSt w l2 h2 d r m c v o i S :=
  ⟨fun x hx k hk => Nat.lt_of_lt_of_le (h.top x hx k hk) hh, h.dm, h.oi, h.d.mono hl, h.r.mono hl, h.m.mono hl, h.c.mono hl, h.v.mono hl, h.o.mono hl, h.i.mono hl⟩
end
/-- A new state. -/
def NewSt (w : World) (S : S8) (e : Ending) (w' : World) : Prop :=
  ∃ d r m c v o i, e = .returned (.agg #[d, r, .int .i32 S.a, m, c, v, o, i, .int .i64 S.fault, .int .i64 S.fuel]) ∧ OwnSt w' w.heap.size w'.heap.size d r m c v o i S ∧ Below w.heap.size w w'
theorem st_cells2 {w : World} {g q : Nat} {t u : TypeId} {x0 x1 x2 x3 x4 x5 x6 x7 x8 x9 y0 y1 y2 y3 y4 y5 y6 y7 y8 y9 : Value} (k : Blk w g t #[x0, x1, x2, x3, x4, x5, x6, x7, x8, x9]) (l : Blk w q u #[y0, y1, y2, y3, y4, y5, y6, y7, y8, y9]) :
    w.cell? ⟨g, 0, none⟩ = some x0 ∧ w.cell? ⟨g, 1, none⟩ = some x1 ∧ w.cell? ⟨g, 2, none⟩ = some x2 ∧ w.cell? ⟨g, 3, none⟩ = some x3 ∧ w.cell? ⟨g, 4, none⟩ = some x4 ∧ w.cell? ⟨g, 5, none⟩ = some x5 ∧ w.cell? ⟨g, 6, none⟩ = some x6 ∧ w.cell? ⟨g, 7, none⟩ = some x7 ∧ w.cell? ⟨g, 8, none⟩ = some x8 ∧ w.cell? ⟨g, 9, none⟩ = some x9 ∧
    w.cell? ⟨q, 0, none⟩ = some y0 ∧ w.cell? ⟨q, 1, none⟩ = some y1 ∧ w.cell? ⟨q, 2, none⟩ = some y2 ∧ w.cell? ⟨q, 3, none⟩ = some y3 ∧ w.cell? ⟨q, 4, none⟩ = some y4 ∧ w.cell? ⟨q, 5, none⟩ = some y5 ∧ w.cell? ⟨q, 6, none⟩ = some y6 ∧ w.cell? ⟨q, 7, none⟩ = some y7 ∧ w.cell? ⟨q, 8, none⟩ = some y8 ∧ w.cell? ⟨q, 9, none⟩ = some y9 :=
  ⟨k.cell 0, k.cell 1, k.cell 2, k.cell 3, k.cell 4, k.cell 5, k.cell 6, k.cell 7, k.cell 8, k.cell 9, l.cell 0, l.cell 1, l.cell 2, l.cell 3, l.cell 4, l.cell 5, l.cell 6, l.cell 7, l.cell 8, l.cell 9⟩
/-- The ten cells of a state's box. -/
theorem st_cells {w : World} {g : Nat} {t : TypeId} {x0 x1 x2 x3 x4 x5 x6 x7 x8 x9 : Value} (k : Blk w g t #[x0, x1, x2, x3, x4, x5, x6, x7, x8, x9]) :
    w.cell? ⟨g, 0, none⟩ = some x0 ∧ w.cell? ⟨g, 1, none⟩ = some x1 ∧ w.cell? ⟨g, 2, none⟩ = some x2 ∧ w.cell? ⟨g, 3, none⟩ = some x3 ∧ w.cell? ⟨g, 4, none⟩ = some x4 ∧ w.cell? ⟨g, 5, none⟩ = some x5 ∧ w.cell? ⟨g, 6, none⟩ = some x6 ∧ w.cell? ⟨g, 7, none⟩ = some x7 ∧ w.cell? ⟨g, 8, none⟩ = some x8 ∧ w.cell? ⟨g, 9, none⟩ = some x9 :=
  ⟨k.cell 0, k.cell 1, k.cell 2, k.cell 3, k.cell 4, k.cell 5, k.cell 6, k.cell 7, k.cell 8, k.cell 9⟩

/-- A state with marks in its lists, from k on. -/
def markSt (S : S8) (k : Nat) : S8 :=
  { S with
    data := marksI k S.data.length
    ret := marksS (k + S.data.length) S.ret.length
    mem := marksI (k + S.data.length + 2 * S.ret.length) S.mem.length
    cells := marksN (k + S.data.length + 2 * S.ret.length + S.mem.length) S.cells.length
    vars := marksL (k + S.data.length + 2 * S.ret.length + S.mem.length + S.cells.length) S.vars.length
    out := marksB (k + S.data.length + 2 * S.ret.length + S.mem.length + S.cells.length + S.vars.length) S.out.length
    inp := marksB (k + S.data.length + 2 * S.ret.length + S.mem.length + S.cells.length + S.vars.length + S.out.length) S.inp.length }
theorem markSt_tot (S : S8) (k : Nat) : totSt (markSt S k) = totSt S := by simp only [totSt, markSt, marksI_len, marksS_len, marksN_len, marksL_len, marksB_len]
theorem apart_sym {u v : Value} (h : u.ownBlock = none ∨ u.ownBlock ≠ v.ownBlock) : v.ownBlock = none ∨ v.ownBlock ≠ u.ownBlock := by
  rcases h with h | h
  · cases hq : v.ownBlock with
    | none => exact .inl rfl
    | some k => exact .inr (by rw [h]; simp)
  · exact .inr fun e => h e.symm
theorem box_neG {W : World} {g base size : Nat} {t e : TypeId} {cs : Array Value} {v : Value} {n : Nat} {xs : List Value} (hk : Blk W g t cs) (ho : W.ownsRow base e size v n xs) (ht : t ≠ e) : some g ≠ v.ownBlock := by
  rcases ho.2 with ⟨rfl, -⟩ | ⟨q, cap, cur, rfl, -, hq, -⟩
  · simp [Value.ownBlock]
  · intro h
    have h : g = q := by simpa [Value.ownBlock] using h
    subst h
    unfold Blk at hk
    rw [hk] at hq
    injection hq with h1
    injection h1 with _ h2
    exact ht h2
/-- Seven rows of the sizes of a state's, whatever they hold. -/
structure Rows7 (w : World) (lo : Nat) (S : S8) (d r m c v o i : Value) (x0 : List Int) (x1 : List (Int × Int)) (x2 : List Int) (x3 : List Nat) (x4 : List Int) (x5 x6 : List Nat) : Prop where
  d : w.ownsRow lo 21 1 d S.data.length (x0.map iv)
  r : w.ownsRow lo 109 2 r S.ret.length (slv x1)
  m : w.ownsRow lo 21 1 m S.mem.length (x2.map iv)
  c : w.ownsRow lo 144 1 c S.cells.length (x3.map u32v)
  v : w.ownsRow lo 3 1 v S.vars.length (x4.map lv)
  o : w.ownsRow lo 5 1 o S.out.length (x5.map b8v)
  i : TailB w lo 5 i S.inp.length (x6.map b8v)
theorem Rows7.st {w : World} {lo hi : Nat} {S : S8} {k : Nat} {d r m c v o i : Value} (h : Rows7 w lo S d r m c v o i (markSt S k).data (markSt S k).ret (markSt S k).mem (markSt S k).cells (markSt S k).vars (markSt S k).out (markSt S k).inp)
    (top : ∀ x ∈ [d, r, m, c, v, o, i], ∀ k, x.ownBlock = some k → k < hi) (dm : d.ownBlock = none ∨ d.ownBlock ≠ m.ownBlock) (oi : o.ownBlock = none ∨ o.ownBlock ≠ i.ownBlock) : OwnSt w lo hi d r m c v o i (markSt S k) := by
  have e0 : (markSt S k).data.length = S.data.length := marksI_len _ _
  have e1 : (markSt S k).ret.length = S.ret.length := marksS_len _ _
  have e2 : (markSt S k).mem.length = S.mem.length := marksI_len _ _
  have e3 : (markSt S k).cells.length = S.cells.length := marksN_len _ _
  have e4 : (markSt S k).vars.length = S.vars.length := marksL_len _ _
  have e5 : (markSt S k).out.length = S.out.length := marksB_len _ _
  have e6 : (markSt S k).inp.length = S.inp.length := marksB_len _ _
  exact ⟨top, dm, oi, by rw [e0]; exact h.d, by rw [e1]; exact h.r, by rw [e2]; exact h.m, by rw [e3]; exact h.c, by rw [e4]; exact h.v, by rw [e5]; exact h.o, by rw [e6]; exact h.i⟩
end Go.Proofs.Ytlkkobffgbjkpaa
