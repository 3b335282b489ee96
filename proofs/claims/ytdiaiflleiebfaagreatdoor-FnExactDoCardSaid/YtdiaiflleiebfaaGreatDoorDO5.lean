/-
  The machine's state in memory, as one bundle of seven lists and three numbers: what can be read, what is owned, what is kept.
  A state that comes in.
  A list, a store that comes in.
  Bytes that come in.
  A state that comes in, opened.
-/
import Derived.Test.YtdiaiflleiebfaaGreatDoorDO2
import Derived.Test.YtdiaiflleiebfaaGreatDoorDO3
import Derived.Test.YtdiaiflleiebfaaGreatDoorDO4
import Derived.ChangeSlices
import Derived.Lib.SmallJoins
import Derived.Deep.Slices
namespace Go.Proofs.YtdiaiflleiebfaaGreatDoor
open Go.RowKit Go

/-- A state's lists can be read. -/
structure RdSt (w : World) (d r m c v o i : Value) (S : S8) : Prop where
  k : CapOk v
  d : RdI w d S.data
  r : RdS w r S.ret
  m : RdI w m S.mem
  c : RdN w c S.cells
  v : RdL w v S.vars
  o : RdM w o S.out
  i : RdM w i S.inp
theorem RdSt.below {w w' : World} {d r m c v o i : Value} {S : S8} (h : RdSt w d r m c v o i S) (hb : Below w.heap.size w w') : RdSt w' d r m c v o i S :=
  ⟨h.k, h.d.below hb, h.r.below hb, h.m.below hb, h.c.below hb, h.v.below hb, h.o.below hb, h.i.below hb⟩
theorem RdSt.form {w : World} {d r m c v o i : Value} {S : S8} (h : RdSt w d r m c v o i S) :
    (∃ A k, d = .slice A S.data.length k) ∧ (∃ A k, r = .slice A S.ret.length k) ∧ (∃ A k, m = .slice A S.mem.length k) ∧ (∃ A k, c = .slice A S.cells.length k) ∧ (∃ A k, v = .slice A S.vars.length k) ∧ (∃ A k, o = .slice A S.out.length k) ∧ (∃ A k, i = .slice A S.inp.length k) :=
  ⟨h.d.form, h.r.form, h.m.form, h.c.form, h.v.form, h.o.form, h.i.form⟩

/-- Nothing but the blocks from lo to hi (and new ones) has changed. -/
structure Kept (lo hi : Nat) (w w' : World) : Prop where
  os : w'.os = w.os
  tape : w'.tape = w.tape
  output : w'.output = w.output
  size : w.heap.size ≤ w'.heap.size
  block : ∀ k, k < w.heap.size → (k < lo ∨ hi ≤ k) → w'.heap[k]? = w.heap[k]?
theorem Kept.refl (lo hi : Nat) (w : World) : Kept lo hi w w := ⟨rfl, rfl, rfl, Nat.le_refl _, fun _ _ _ => rfl⟩
theorem Kept.trans {lo hi : Nat} {a b c : World} (h : Kept lo hi a b) (k : Kept lo hi b c) : Kept lo hi a c :=
  ⟨k.os.trans h.os, k.tape.trans h.tape, k.output.trans h.output, Nat.le_trans h.size k.size, fun i hi h2 => (k.block i (Nat.lt_of_lt_of_le hi h.size) h2).trans (h.block i hi h2)⟩
theorem Kept.below {lo hi : Nat} {w w' : World} (h : Kept lo hi w w') {B : Nat} (hB : B ≤ lo) (hw : B ≤ w.heap.size) : Below B w w' :=
  ⟨h.os, h.tape, h.output, h.size, fun k hk => h.block k (by omega) (.inl (by omega))⟩
theorem Kept.of_below {lo hi : Nat} {w w' : World} (h : Below w.heap.size w w') : Kept lo hi w w' := ⟨h.os, h.tape, h.output, h.size, fun k hk _ => h.block k hk⟩
theorem Kept.of_grown {lo hi : Nat} {w w' : World} {row : Option Nat} (h : w.grownBy w' row) (hr : ∀ k, row = some k → lo ≤ k ∧ k < hi) : Kept lo hi w w' :=
  ⟨h.os, h.tape, h.output, h.size, fun k hk h2 => h.block k hk (fun e => by have := hr k e.symm; omega)⟩
theorem own_same {w w' : World} {base size : Nat} {e : TypeId} {v : Value} {n : Nat} {xs : List Value} (h : w.ownsRow base e size v n xs) (hb : ∀ k, v.ownBlock = some k → w'.heap[k]? = w.heap[k]?) : w'.ownsRow base e size v n xs := by
  refine ⟨h.1, ?_⟩
  rcases h.2 with h0 | ⟨g, cap, cur, rfl, h1, h2, h3⟩
  · exact .inl h0
  · exact .inr ⟨g, cap, cur, rfl, h1, (hb g rfl).trans h2, h3⟩
theorem Blk.kept {lo hi : Nat} {w w' : World} {g : Nat} {t : TypeId} {cs : Array Value} (h : Blk w g t cs) (hk : Kept lo hi w w') (hg : g < lo ∨ hi ≤ g) : Blk w' g t cs := (hk.block g h.lt hg).trans h
/-- Two rows of unlike elements lie apart. -/
theorem rows_ne {w : World} {b1 b2 s1 s2 n1 n2 : Nat} {e1 e2 : TypeId} {u v : Value} {xs ys : List Value} (h1 : w.ownsRow b1 e1 s1 u n1 xs) (h2 : w.ownsRow b2 e2 s2 v n2 ys) (he : e1 ≠ e2) : u.ownBlock = none ∨ u.ownBlock ≠ v.ownBlock := by
  rcases h1.2 with ⟨rfl, -⟩ | ⟨g, cap, cur, rfl, -, hg, -⟩
  · exact .inl rfl
  · rcases h2.2 with ⟨rfl, -⟩ | ⟨q, cap2, cur2, rfl, -, hq, -⟩
    · exact .inr (by simp [Value.ownBlock])
    · refine .inr fun e => ?_
      have e : g = q := by simpa [Value.ownBlock] using e
      subst e
      rw [hg] at hq
      injection hq with h1
      injection h1 with _ h2
      exact he h2

/-- A state's lists are owned: each lies in a block of its own, from lo to hi. -/
structure OwnSt (w : World) (lo hi : Nat) (d r m c v o i : Value) (S : S8) : Prop where
  top : ∀ x ∈ [d, r, m, c, v, o, i], ∀ k, x.ownBlock = some k → k < hi
  dm : d.ownBlock = none ∨ d.ownBlock ≠ m.ownBlock
  oi : o.ownBlock = none ∨ o.ownBlock ≠ i.ownBlock
  d : w.ownsRow lo 21 1 d S.data.length (S.data.map iv)
  r : w.ownsRow lo 69 2 r S.ret.length (slv S.ret)
  m : w.ownsRow lo 21 1 m S.mem.length (S.mem.map iv)
  c : w.ownsRow lo 36 1 c S.cells.length (S.cells.map u32v)
  v : w.ownsRow lo 3 1 v S.vars.length (S.vars.map lv)
  o : w.ownsRow lo 5 1 o S.out.length (S.out.map b8v)
  i : TailB w lo 5 i S.inp.length (S.inp.map b8v)
theorem totSt_small {S : S8} (h : totSt S ≤ 4000000) : S.data.length ≤ 4000000 ∧ S.ret.length ≤ 4000000 ∧ S.mem.length ≤ 4000000 ∧ S.cells.length ≤ 4000000 ∧ S.vars.length ≤ 4000000 ∧ S.out.length ≤ 4000000 ∧ S.inp.length ≤ 4000000 := by
  unfold totSt at h
  omega
section
variable {w w' : World} {lo hi : Nat} {d r m c v o i : Value} {S : S8}
theorem OwnSt.rd (h : OwnSt w lo hi d r m c v o i S) (hs : totSt S ≤ 4000000) : RdSt w d r m c v o i S := by
  obtain ⟨s1, s2, s3, s4, s5, s6, s7⟩ := totSt_small hs
  exact ⟨own_cap h.v, .of_own h.d (by omega), .of_own h.r (by omega), .of_own h.m (by omega), .of_own h.c (by omega), .of_own h.v (by omega), .of_own h.o (by omega), .of_tail h.i (by omega)⟩
theorem OwnSt.same (h : OwnSt w lo hi d r m c v o i S) (hb : ∀ k, lo ≤ k → k < hi → k < w.heap.size → w'.heap[k]? = w.heap[k]?) : OwnSt w' lo hi d r m c v o i S := by
  have K : ∀ {e : TypeId} {size n : Nat} {x : Value} {xs : List Value}, x ∈ [d, r, m, c, v, o, i] → w.ownsRow lo e size x n xs → w'.ownsRow lo e size x n xs := fun hx ho => own_same ho fun k hk => hb k (World.ownsRow.lt ho k hk).1 (h.top _ hx k hk) (World.ownsRow.lt ho k hk).2
  exact ⟨h.top, h.dm, h.oi, K (by simp) h.d, K (by simp) h.r, K (by simp) h.m, K (by simp) h.c, K (by simp) h.v, K (by simp) h.o, tail_same h.i fun k hk => hb k (h.i.lt k hk).1 (h.top _ (by simp) k hk) (h.i.lt k hk).2⟩
theorem OwnSt.below (h : OwnSt w lo hi d r m c v o i S) {B : Nat} (hb : Below B w w') (hB : hi ≤ B) : OwnSt w' lo hi d r m c v o i S := h.same fun k _ h2 _ => hb.block k (by omega)
theorem OwnSt.keep (h : OwnSt w lo hi d r m c v o i S) (hb : Below w.heap.size w w') : OwnSt w' lo hi d r m c v o i S := h.same fun k _ _ h3 => hb.block k h3
theorem OwnSt.kept (h : OwnSt w lo hi d r m c v o i S) {l2 h2 : Nat} (hk : Kept l2 h2 w w') (hd : hi ≤ l2 ∨ h2 ≤ lo) : OwnSt w' lo hi d r m c v o i S := h.same fun k h3 h4 h5 => hk.block k h5 (by omega)
theorem OwnSt.form (h : OwnSt w lo hi d r m c v o i S) (hs : totSt S ≤ 4000000) :
    (∃ A k, d = .slice A S.data.length k) ∧ (∃ A k, r = .slice A S.ret.length k) ∧ (∃ A k, m = .slice A S.mem.length k) ∧ (∃ A k, c = .slice A S.cells.length k) ∧ (∃ A k, v = .slice A S.vars.length k) ∧ (∃ A k, o = .slice A S.out.length k) ∧ (∃ A k, i = .slice A S.inp.length k) := (h.rd hs).form
theorem OwnSt.mono (h : OwnSt w lo hi d r m c v o i S) {l2 h2 : Nat} (hl : l2 ≤ lo) (hh : hi ≤ h2) : OwnSt w l2 h2 d r m c v o i S :=
  ⟨fun x hx k hk => Nat.lt_of_lt_of_le (h.top x hx k hk) hh, h.dm, h.oi, h.d.mono hl, h.r.mono hl, h.m.mono hl, h.c.mono hl, h.v.mono hl, h.o.mono hl, h.i.mono hl⟩
end
/-- A new state. -/
def NewSt (w : World) (S : S8) (e : Ending) (w' : World) : Prop :=
  ∃ d r m c v o i, e = .returned (.agg #[d, r, .int .i32 S.a, m, c, v, o, i, .int .i64 S.fault, .int .i64 S.fuel]) ∧ OwnSt w' w.heap.size w'.heap.size d r m c v o i S ∧ Below w.heap.size w w'
theorem st_cells2 {w : World} {g q : Nat} {t u : TypeId} {x0 x1 x2 x3 x4 x5 x6 x7 x8 x9 y0 y1 y2 y3 y4 y5 y6 y7 y8 y9 : Value} (k : Blk w g t #[x0, x1, x2, x3, x4, x5, x6, x7, x8, x9]) (l : Blk w q u #[y0, y1, y2, y3, y4, y5, y6, y7, y8, y9]) :
    w.cell? ⟨g, 0, none⟩ = some x0 ∧ w.cell? ⟨g, 1, none⟩ = some x1 ∧ w.cell? ⟨g, 2, none⟩ = some x2 ∧ w.cell? ⟨g, 3, none⟩ = some x3 ∧ w.cell? ⟨g, 4, none⟩ = some x4 ∧ w.cell? ⟨g, 5, none⟩ = some x5 ∧ w.cell? ⟨g, 6, none⟩ = some x6 ∧ w.cell? ⟨g, 7, none⟩ = some x7 ∧ w.cell? ⟨g, 8, none⟩ = some x8 ∧ w.cell? ⟨g, 9, none⟩ = some x9 ∧
    w.cell? ⟨q, 0, none⟩ = some y0 ∧ w.cell? ⟨q, 1, none⟩ = some y1 ∧ w.cell? ⟨q, 2, none⟩ = some y2 ∧ w.cell? ⟨q, 3, none⟩ = some y3 ∧ w.cell? ⟨q, 4, none⟩ = some y4 ∧ w.cell? ⟨q, 5, none⟩ = some y5 ∧ w.cell? ⟨q, 6, none⟩ = some y6 ∧ w.cell? ⟨q, 7, none⟩ = some y7 ∧ w.cell? ⟨q, 8, none⟩ = some y8 ∧ w.cell? ⟨q, 9, none⟩ = some y9 :=
  ⟨k.cell 0, k.cell 1, k.cell 2, k.cell 3, k.cell 4, k.cell 5, k.cell 6, k.cell 7, k.cell 8, k.cell 9, l.cell 0, l.cell 1, l.cell 2, l.cell 3, l.cell 4, l.cell 5, l.cell 6, l.cell 7, l.cell 8, l.cell 9⟩
/-- The ten cells of a state's box. -/
theorem st_cells {w : World} {g : Nat} {t : TypeId} {x0 x1 x2 x3 x4 x5 x6 x7 x8 x9 : Value} (k : Blk w g t #[x0, x1, x2, x3, x4, x5, x6, x7, x8, x9]) :
    w.cell? ⟨g, 0, none⟩ = some x0 ∧ w.cell? ⟨g, 1, none⟩ = some x1 ∧ w.cell? ⟨g, 2, none⟩ = some x2 ∧ w.cell? ⟨g, 3, none⟩ = some x3 ∧ w.cell? ⟨g, 4, none⟩ = some x4 ∧ w.cell? ⟨g, 5, none⟩ = some x5 ∧ w.cell? ⟨g, 6, none⟩ = some x6 ∧ w.cell? ⟨g, 7, none⟩ = some x7 ∧ w.cell? ⟨g, 8, none⟩ = some x8 ∧ w.cell? ⟨g, 9, none⟩ = some x9 :=
  ⟨k.cell 0, k.cell 1, k.cell 2, k.cell 3, k.cell 4, k.cell 5, k.cell 6, k.cell 7, k.cell 8, k.cell 9⟩

/-- A state with marks in its lists, from k on. -/
def markSt (S : S8) (k : Nat) : S8 :=
  { S with
    data := marksI k S.data.length
    ret := marksS (k + S.data.length) S.ret.length
    mem := marksI (k + S.data.length + 2 * S.ret.length) S.mem.length
    cells := marksN (k + S.data.length + 2 * S.ret.length + S.mem.length) S.cells.length
    vars := marksL (k + S.data.length + 2 * S.ret.length + S.mem.length + S.cells.length) S.vars.length
    out := marksB (k + S.data.length + 2 * S.ret.length + S.mem.length + S.cells.length + S.vars.length) S.out.length
    inp := marksB (k + S.data.length + 2 * S.ret.length + S.mem.length + S.cells.length + S.vars.length + S.out.length) S.inp.length }
theorem markSt_tot (S : S8) (k : Nat) : totSt (markSt S k) = totSt S := by simp only [totSt, markSt, marksI_len, marksS_len, marksN_len, marksL_len, marksB_len]
theorem apart_sym {u v : Value} (h : u.ownBlock = none ∨ u.ownBlock ≠ v.ownBlock) : v.ownBlock = none ∨ v.ownBlock ≠ u.ownBlock := by
  rcases h with h | h
  · cases hq : v.ownBlock with
    | none => exact .inl rfl
    | some k => exact .inr (by rw [h]; simp)
  · exact .inr fun e => h e.symm
theorem box_neG {W : World} {g base size : Nat} {t e : TypeId} {cs : Array Value} {v : Value} {n : Nat} {xs : List Value} (hk : Blk W g t cs) (ho : W.ownsRow base e size v n xs) (ht : t ≠ e) : some g ≠ v.ownBlock := by
  rcases ho.2 with ⟨rfl, -⟩ | ⟨q, cap, cur, rfl, -, hq, -⟩
  · simp [Value.ownBlock]
  · intro h
    have h : g = q := by simpa [Value.ownBlock] using h
    subst h
    unfold Blk at hk
    rw [hk] at hq
    injection hq with h1
    injection h1 with _ h2
    exact ht h2
/-- Seven rows of the sizes of a state's, whatever they hold. -/
structure Rows7 (w : World) (lo : Nat) (S : S8) (d r m c v o i : Value) (x0 : List Int) (x1 : List (Int × Int)) (x2 : List Int) (x3 : List Nat) (x4 : List Int) (x5 x6 : List Nat) : Prop where
  d : w.ownsRow lo 21 1 d S.data.length (x0.map iv)
  r : w.ownsRow lo 69 2 r S.ret.length (slv x1)
  m : w.ownsRow lo 21 1 m S.mem.length (x2.map iv)
  c : w.ownsRow lo 36 1 c S.cells.length (x3.map u32v)
  v : w.ownsRow lo 3 1 v S.vars.length (x4.map lv)
  o : w.ownsRow lo 5 1 o S.out.length (x5.map b8v)
  i : TailB w lo 5 i S.inp.length (x6.map b8v)
theorem Rows7.st {w : World} {lo hi : Nat} {S : S8} {k : Nat} {d r m c v o i : Value} (h : Rows7 w lo S d r m c v o i (markSt S k).data (markSt S k).ret (markSt S k).mem (markSt S k).cells (markSt S k).vars (markSt S k).out (markSt S k).inp)
    (top : ∀ x ∈ [d, r, m, c, v, o, i], ∀ k, x.ownBlock = some k → k < hi) (dm : d.ownBlock = none ∨ d.ownBlock ≠ m.ownBlock) (oi : o.ownBlock = none ∨ o.ownBlock ≠ i.ownBlock) : OwnSt w lo hi d r m c v o i (markSt S k) := by
  have e0 : (markSt S k).data.length = S.data.length := marksI_len _ _
  have e1 : (markSt S k).ret.length = S.ret.length := marksS_len _ _
  have e2 : (markSt S k).mem.length = S.mem.length := marksI_len _ _
  have e3 : (markSt S k).cells.length = S.cells.length := marksN_len _ _
  have e4 : (markSt S k).vars.length = S.vars.length := marksL_len _ _
  have e5 : (markSt S k).out.length = S.out.length := marksB_len _ _
  have e6 : (markSt S k).inp.length = S.inp.length := marksB_len _ _
  exact ⟨top, dm, oi, by rw [e0]; exact h.d, by rw [e1]; exact h.r, by rw [e2]; exact h.m, by rw [e3]; exact h.c, by rw [e4]; exact h.v, by rw [e5]; exact h.o, by rw [e6]; exact h.i⟩
end Go.Proofs.YtdiaiflleiebfaaGreatDoor

namespace Go.Proofs.YtdiaiflleiebfaaGreatDoor
open Go.RowKit Go

/-- A state whose numbers are of their kinds. -/
structure In8 (S : S8) : Prop where
  data : ∀ x ∈ S.data, -2147483648 ≤ x ∧ x ≤ 2147483647
  ret : ∀ x ∈ S.ret, (-9223372036854775808 ≤ x.1 ∧ x.1 ≤ 9223372036854775807) ∧ (-2147483648 ≤ x.2 ∧ x.2 ≤ 2147483647)
  a : -2147483648 ≤ S.a ∧ S.a ≤ 2147483647
  mem : ∀ x ∈ S.mem, -2147483648 ≤ x ∧ x ≤ 2147483647
  cells : ∀ x ∈ S.cells, x < 4294967296
  vars : ∀ x ∈ S.vars, -9223372036854775808 ≤ x ∧ x ≤ 9223372036854775807
  out : ∀ x ∈ S.out, x < 256
  inp : ∀ x ∈ S.inp, x < 256
  fault : -9223372036854775808 ≤ S.fault ∧ S.fault ≤ 9223372036854775807
  fuel : -9223372036854775808 ≤ S.fuel ∧ S.fuel ≤ 9223372036854775807
/-- A state that comes in. -/
def StIn (w : World) (d r m c v o i : Value) (xa xf xu : Int) (n0 n1 n2 n3 n4 n5 n6 : Nat) : Prop :=
  n0 + n1 + n2 + n3 + n4 + n5 + n6 ≤ 4611686018427387904 → ∃ S : S8, S.data.length = n0 ∧ S.ret.length = n1 ∧ S.mem.length = n2 ∧ S.cells.length = n3 ∧ S.vars.length = n4 ∧ S.out.length = n5 ∧ S.inp.length = n6 ∧ S.a = xa ∧ S.fault = xf ∧ S.fuel = xu ∧ In8 S ∧ RdSt w d r m c v o i S
end Go.Proofs.YtdiaiflleiebfaaGreatDoor

namespace Go.Proofs.YtdiaiflleiebfaaGreatDoor
open Go.ChangeShapes Go.WideShapes Go.ChangeAt Go.RowKit Go

theorem lt_of_cell_s {w : World} {a : Addr} {v : Value} (h : w.cell? a = some v) : a.block < w.heap.size := by
  rcases Nat.lt_or_ge a.block w.heap.size with hl | hl
  · exact hl
  · have e : w.heap[a.block]? = none := Array.getElem?_eq_none hl
    simp [World.cell?, e] at h
/-- A list of numbers of 32 bits that comes in. -/
def NumsIn (W : World) (A : Option Addr) (len c : Nat) : Prop := len ≤ 9223372036854775807 ∧ (len ≤ 4611686018427387904 → ∃ xs : List Nat, xs.length = len ∧ (∀ x ∈ xs, x < 4294967296) ∧ RdN W (.slice A len c) xs)
theorem nums_cell {H : Type} {enc : TypeId × Value → H} {P : Program} {W : World} {t e : TypeId} {c0 : Value} {fuel : Nat} {x : DataW H × List MemPlace}
    (ht : P.underlying t = some (.slice e)) (he : P.underlying e = some (.int .u32)) (hc : P.cellsOf e = 1) (hf : DataW.trod enc P W 0 (fun _ => true) true fuel t [c0] = some x) : ∃ A len c, c0 = .slice A len c ∧ NumsIn W A len c := by
  rcases open_ints ht he hc hf with ⟨hcs, -⟩ | ⟨a, len, cap, zs, hcs, -, hl, hm, hz, -, hcell, hwz⟩
  · obtain rfl : c0 = .slice none 0 0 := by simpa using hcs
    exact ⟨none, 0, 0, rfl, by omega, fun _ => ⟨[], rfl, fun x hx => by simp at hx, none, 0, rfl, by simp, fun i hi => by simp at hi⟩⟩
  · obtain rfl : c0 = .slice (some a) len cap := by simpa using hcs
    unfold maxLen at hm
    simp at hz
    have hb : ∀ j (hj : j < len), 0 ≤ zs[j]'(by omega) ∧ zs[j]'(by omega) < 4294967296 := fun j hj => by
      have hw := hwz _ (List.getElem_mem (show j < zs.length by omega))
      have : 0 ≤ zs[j]'(by omega) ∧ zs[j]'(by omega) ≤ 4294967295 := by
        simpa [Lit.wf, IntKind.min, IntKind.max, IntKind.signed, IntKind.bits] using hw
      omega
    refine ⟨some a, len, cap, rfl, by omega, fun h62 => ⟨(zs.take len).map Int.toNat, by simp; omega, ?_, some a, cap, by simp; omega, by simp; omega, fun i hi => ⟨a, rfl, ?_, ?_⟩⟩⟩
    · intro x hx
      obtain ⟨j, hj, rfl⟩ := List.getElem_of_mem hx
      simp at hj ⊢
      have := hb j (by omega)
      omega
    · have h1 := lt_of_cell_s (hcell i (by simp at hi; omega))
      rw [addr_addb] at h1
      exact h1
    · have hi2 : i < len := by simp at hi; omega
      have h1 := hcell i (by omega)
      have h2 := hb i hi2
      rw [h1]
      unfold u32v
      simp [List.getD, List.getElem?_eq_getElem (show i < zs.length by omega)]
      omega
theorem nums_in {H : Type} {enc : TypeId × Value → H} {P : Program} {W : World} {t e : TypeId} {A : Option Addr} {len cap : Nat} {d : DataW H} {p : List MemPlace}
    (ht : P.underlying t = some (.slice e)) (he : P.underlying e = some (.int .u32)) (hc : P.cellsOf e = 1) (h : DataW.Trod enc P W 0 (fun _ => true) true t (.slice A len cap) d p) : NumsIn W A len cap := by
  obtain ⟨fuel, hf⟩ := h
  obtain ⟨A2, len2, c2, e2, hn⟩ := nums_cell ht he hc (show DataW.trod enc P W 0 (fun _ => true) true fuel t [.slice A len cap] = some (d, p) from hf)
  injection e2 with h1 h2 h3
  subst h1 h2 h3
  exact hn
theorem array1 {α : Type} {cs : Array α} (h : cs.size = 1) : ∃ c0, cs = #[c0] := by
  obtain ⟨l⟩ := cs
  match l, h with
  | [c0], _ => exact ⟨c0, rfl⟩
theorem store_in {H : Type} {enc : TypeId × Value → H} {P : Program} {W : World} {rc : Reach} {base : Nat} {t e u : TypeId} {f0 : Field} {v : Value} {d : DataW H} {p : List MemPlace}
    (hs : P.underlying t = some (.struct #[f0])) (hC : P.cellsOf t = 1) (h0 : f0.type = u) (h1 : f0.offset = 0) (hu1 : P.cellsOf u = 1)
    (ht : P.underlying u = some (.slice e)) (he : P.underlying e = some (.int .u32)) (hc : P.cellsOf e = 1)
    (hv : Value.okWide P W rc base t v) (h : DataW.Trod enc P W 0 (fun _ => true) true t v d p) : ∃ A len c, v = stA (.slice A len c) ∧ NumsIn W A len c := by
  obtain ⟨cs, rfl, hsz⟩ := okWide_struct hs hv
  obtain ⟨c0, rfl⟩ := array1 (hsz.trans hC)
  obtain ⟨fuel, hf⟩ := h
  obtain ⟨xs, n, _, hx, hl, hlen, hff⟩ := DataW.trod_struct hs hf
  have hf0 := hff 0 f0 rfl
  rw [h0, h1, hu1] at hf0
  match xs, hlen with
  | [y0], _ =>
    have hf1 : DataW.trod enc P W 0 (fun _ => true) true n u [c0] = some y0 := by simpa [Value.cells] using hf0
    obtain ⟨A, len, c, rfl, hn⟩ := nums_cell ht he hc hf1
    exact ⟨A, len, c, rfl, hn⟩
end Go.Proofs.YtdiaiflleiebfaaGreatDoor

namespace Go.Proofs.YtdiaiflleiebfaaGreatDoor
open Go.ChangeShapes Go.WideShapes Go.ChangeAt Go.RowKit Go

theorem lt_of_cell_b {w : World} {a : Addr} {v : Value} (h : w.cell? a = some v) : a.block < w.heap.size := by
  rcases Nat.lt_or_ge a.block w.heap.size with hl | hl
  · exact hl
  · have e : w.heap[a.block]? = none := Array.getElem?_eq_none hl
    simp [World.cell?, e] at h
/-- Bytes that come in. -/
def BytesIn (W : World) (A : Option Addr) (len c : Nat) : Prop := len ≤ 9223372036854775807 ∧ (len ≤ 4611686018427387904 → ∃ xs : List Nat, xs.length = len ∧ (∀ x ∈ xs, x < 256) ∧ RdM W (.slice A len c) xs)
theorem bytes_cell {H : Type} {enc : TypeId × Value → H} {P : Program} {W : World} {t e : TypeId} {c0 : Value} {fuel : Nat} {x : DataW H × List MemPlace}
    (ht : P.underlying t = some (.slice e)) (he : P.underlying e = some (.int .u8)) (hc : P.cellsOf e = 1) (hf : DataW.trod enc P W 0 (fun _ => true) true fuel t [c0] = some x) : ∃ A len c, c0 = .slice A len c ∧ BytesIn W A len c := by
  rcases open_ints ht he hc hf with ⟨hcs, -⟩ | ⟨a, len, cap, zs, hcs, -, hl, hm, hz, -, hcell, hwz⟩
  · obtain rfl : c0 = .slice none 0 0 := by simpa using hcs
    exact ⟨none, 0, 0, rfl, by omega, fun _ => ⟨[], rfl, fun x hx => by simp at hx, none, 0, rfl, by simp, fun i hi => by simp at hi⟩⟩
  · obtain rfl : c0 = .slice (some a) len cap := by simpa using hcs
    unfold maxLen at hm
    simp at hz
    have hb : ∀ j (hj : j < len), 0 ≤ zs[j]'(by omega) ∧ zs[j]'(by omega) < 256 := fun j hj => by
      have hw := hwz _ (List.getElem_mem (show j < zs.length by omega))
      have : 0 ≤ zs[j]'(by omega) ∧ zs[j]'(by omega) ≤ 255 := by
        simpa [Lit.wf, IntKind.min, IntKind.max, IntKind.signed, IntKind.bits] using hw
      omega
    refine ⟨some a, len, cap, rfl, by omega, fun h62 => ⟨(zs.take len).map Int.toNat, by simp; omega, ?_, some a, cap, by simp; omega, by simp; omega, fun i hi => ⟨a, rfl, ?_, ?_⟩⟩⟩
    · intro x hx
      obtain ⟨j, hj, rfl⟩ := List.getElem_of_mem hx
      simp at hj ⊢
      have := hb j (by omega)
      omega
    · have h1 := lt_of_cell_b (hcell i (by simp at hi; omega))
      rw [addr_addb] at h1
      exact h1
    · have hi2 : i < len := by simp at hi; omega
      have h1 := hcell i (by omega)
      have h2 := hb i hi2
      rw [h1]
      unfold b8v
      simp [List.getD, List.getElem?_eq_getElem (show i < zs.length by omega)]
      omega
theorem bytes_in {H : Type} {enc : TypeId × Value → H} {P : Program} {W : World} {t e : TypeId} {A : Option Addr} {len cap : Nat} {d : DataW H} {p : List MemPlace}
    (ht : P.underlying t = some (.slice e)) (he : P.underlying e = some (.int .u8)) (hc : P.cellsOf e = 1) (h : DataW.Trod enc P W 0 (fun _ => true) true t (.slice A len cap) d p) : BytesIn W A len cap := by
  obtain ⟨fuel, hf⟩ := h
  obtain ⟨A2, len2, c2, e2, hn⟩ := bytes_cell ht he hc (show DataW.trod enc P W 0 (fun _ => true) true fuel t [.slice A len cap] = some (d, p) from hf)
  injection e2 with h1 h2 h3
  subst h1 h2 h3
  exact hn
end Go.Proofs.YtdiaiflleiebfaaGreatDoor

namespace Go.Proofs.YtdiaiflleiebfaaGreatDoor
open Go.ChangeShapes Go.WideShapes Go.ChangeAt Go.RowKit Go

theorem lt_of_cell_o {w : World} {a : Addr} {v : Value} (h : w.cell? a = some v) : a.block < w.heap.size := by
  rcases Nat.lt_or_ge a.block w.heap.size with hl | hl
  · exact hl
  · have e : w.heap[a.block]? = none := Array.getElem?_eq_none hl
    simp [World.cell?, e] at h
/-- A list of signed numbers that comes in. -/
def SignedIn (W : World) (k : IntKind) (lo hi : Int) (A : Option Addr) (len c : Nat) : Prop :=
  len ≤ 9223372036854775807 ∧ len ≤ c ∧ (len ≤ 4611686018427387904 → ∃ xs : List Int, xs.length = len ∧ (∀ x ∈ xs, lo ≤ x ∧ x ≤ hi) ∧ ∀ i (h : i < xs.length), ∃ a, A = some a ∧ a.block < W.heap.size ∧ W.cell? (a.add i) = some (.int k xs[i]))
theorem signed_cell {H : Type} {enc : TypeId × Value → H} {P : Program} {W : World} {t e : TypeId} {k : IntKind} {lo hi : Int} {c0 : Value} {fuel : Nat} {x : DataW H × List MemPlace} (hk : ∀ n, (Lit.int k n).wf = true → lo ≤ n ∧ n ≤ hi)
    (ht : P.underlying t = some (.slice e)) (he : P.underlying e = some (.int k)) (hc : P.cellsOf e = 1) (hf : DataW.trod enc P W 0 (fun _ => true) true fuel t [c0] = some x) : ∃ A len c, c0 = .slice A len c ∧ SignedIn W k lo hi A len c := by
  rcases open_ints ht he hc hf with ⟨hcs, -⟩ | ⟨a, len, cap, zs, hcs, -, hl, hm, hz, -, hcell, hwz⟩
  · obtain rfl : c0 = .slice none 0 0 := by simpa using hcs
    exact ⟨none, 0, 0, rfl, by omega, by omega, fun _ => ⟨[], rfl, fun x hx => by simp at hx, fun i hi => by simp at hi⟩⟩
  · obtain rfl : c0 = .slice (some a) len cap := by simpa using hcs
    unfold maxLen at hm
    simp at hz
    refine ⟨some a, len, cap, rfl, by omega, hl, fun h62 => ⟨zs.take len, by simp; omega, fun x hx => hk x (hwz x (List.mem_of_mem_take hx)), fun i hi => ⟨a, rfl, ?_, ?_⟩⟩⟩
    · have h1 := lt_of_cell_o (hcell i (by simp at hi; omega))
      rw [addr_addb] at h1
      exact h1
    · have hi2 : i < len := by simp at hi; omega
      rw [hcell i (by omega)]
      simp [List.getD, List.getElem?_eq_getElem (show i < zs.length by omega)]
theorem wf32 (n : Int) (h : (Lit.int .i32 n).wf = true) : -2147483648 ≤ n ∧ n ≤ 2147483647 := by
  simp [Lit.wf, IntKind.min, IntKind.max, IntKind.signed, IntKind.bits] at h
  omega
theorem wf64 (n : Int) (h : (Lit.int .i64 n).wf = true) : -9223372036854775808 ≤ n ∧ n ≤ 9223372036854775807 := by
  simp [Lit.wf, IntKind.min, IntKind.max, IntKind.signed, IntKind.bits] at h
  omega
/-- A list of slots that comes in. -/
def SlotsIn (W : World) (A : Option Addr) (len c : Nat) : Prop :=
  len ≤ 9223372036854775807 ∧ (len ≤ 4611686018427387904 → ∃ xs : List (Int × Int), xs.length = len ∧ (∀ x ∈ xs, (-9223372036854775808 ≤ x.1 ∧ x.1 ≤ 9223372036854775807) ∧ (-2147483648 ≤ x.2 ∧ x.2 ≤ 2147483647)) ∧ RdS W (.slice A len c) xs)
set_option maxRecDepth 100000 in
theorem slots_cell {H : Type} {enc : TypeId × Value → H} {W : World} {c0 : Value} {fuel : Nat} {x : DataW H × List MemPlace}
    (hf : DataW.trod enc Tryz.prog W 0 (fun _ => true) true fuel 43 [c0] = some x) : ∃ A len c, c0 = .slice A len c ∧ SlotsIn W A len c := by
  have kz : Tryz.prog.cellsOf 129 = 2 := by kernel_rfl
  have k1 : Tryz.prog.cellsOf 3 = 1 := by kernel_rfl
  have k2 : Tryz.prog.cellsOf 21 = 1 := by kernel_rfl
  rcases Go.Deep.open_slice Tryz.underlying43 hf with ⟨hcs, -⟩ | ⟨a, len, cap, m, n, D, Pl, hcs, -, hl, hm, hmm, -, hi⟩
  · obtain rfl : c0 = .slice none 0 0 := by simpa using hcs
    exact ⟨none, 0, 0, rfl, by omega, fun _ => ⟨[], rfl, fun x hx => by simp at hx, none, 0, rfl, by simp, fun i hi => by simp at hi⟩⟩
  · obtain rfl : c0 = .slice (some a) len cap := by simpa using hcs
    unfold maxLen at hm
    have hlm : len ≤ m := by rw [hmm]; split <;> omega
    have key : ∀ i, i < len → ∃ u z : Int, ((-9223372036854775808 ≤ u ∧ u ≤ 9223372036854775807) ∧ (-2147483648 ≤ z ∧ z ≤ 2147483647)) ∧ W.cell? (a.add (i * 2)) = some (.int .i64 u) ∧ W.cell? ((a.add (i * 2)).add 1) = some (.int .i32 z) := by
      intro i hil
      obtain ⟨cs', hcc, htr⟩ := hi i (by omega)
      rw [kz] at hcc
      obtain ⟨_, hcl, hat⟩ := World.cells?_some hcc
      obtain ⟨ys, n', _, _, _, hyl, hff⟩ := DataW.trod_struct Tryz.underlying129 htr
      match cs', hcl with
      | [y0, y1], _ =>
        have l2 : ys.length = 2 := hyl
        have f0 : DataW.trod enc Tryz.prog W 0 (fun _ => true) true n' 3 (([y0, y1].drop 0).take (Tryz.prog.cellsOf 3)) = some (ys[0]'(by omega)) := (hff 0 _ rfl).trans (List.getElem?_eq_getElem (show 0 < ys.length by omega))
        have f1 : DataW.trod enc Tryz.prog W 0 (fun _ => true) true n' 21 (([y0, y1].drop 1).take (Tryz.prog.cellsOf 21)) = some (ys[1]'(by omega)) := (hff 1 _ rfl).trans (List.getElem?_eq_getElem (show 1 < ys.length by omega))
        rw [k1] at f0
        rw [k2] at f1
        obtain ⟨u, hu, -, wu⟩ := DataW.trod_int Tryz.underlying3 f0
        obtain ⟨z, hz, -, wz⟩ := DataW.trod_int Tryz.underlying21 f1
        have hu' : y0 = .int .i64 u := by simpa using hu
        have hz' : y1 = .int .i32 z := by simpa using hz
        refine ⟨u, z, ⟨wf64 u wu, wf32 z wz⟩, ?_, ?_⟩
        · have := hat 0 (by omega)
          rw [show (a.add (i * 2)).add 0 = a.add (i * 2) by simp [Addr.add]] at this
          rw [this, hu']
          rfl
        · rw [hat 1 (by omega), hz']
          rfl
    refine ⟨some a, len, cap, rfl, by omega, fun h62 => ?_⟩
    obtain ⟨f, hfx⟩ : ∃ f : Nat → Int × Int, ∀ i, i < len → ((-9223372036854775808 ≤ (f i).1 ∧ (f i).1 ≤ 9223372036854775807) ∧ (-2147483648 ≤ (f i).2 ∧ (f i).2 ≤ 2147483647)) ∧ W.cell? (a.add (i * 2)) = some (.int .i64 (f i).1) ∧ W.cell? ((a.add (i * 2)).add 1) = some (.int .i32 (f i).2) := by
      refine ⟨fun i => if h : i < len then (Classical.choose (key i h), Classical.choose (Classical.choose_spec (key i h))) else (0, 0), fun i h => ?_⟩
      have hs := Classical.choose_spec (Classical.choose_spec (key i h))
      simp only [dif_pos h]
      exact hs
    refine ⟨(List.range len).map f, by simp, fun x hx => ?_, some a, cap, by simp, by simp; omega, fun i hi => ?_⟩
    · obtain ⟨i, hi, rfl⟩ := List.mem_map.1 hx
      exact (hfx i (List.mem_range.1 hi)).1
    · have hil : i < len := by simpa using hi
      have h3 := (hfx i hil).2
      refine ⟨a, rfl, ?_, by simpa using h3.1, by simpa using h3.2⟩
      have h1 := lt_of_cell_o h3.1
      rw [addr_addb] at h1
      exact h1
theorem array10 {α : Type} {cs : Array α} (h : cs.size = 10) : ∃ x0 x1 x2 x3 x4 x5 x6 x7 x8 x9, cs = #[x0, x1, x2, x3, x4, x5, x6, x7, x8, x9] := by
  obtain ⟨l⟩ := cs
  match l, h with
  | [x0, x1, x2, x3, x4, x5, x6, x7, x8, x9], _ => exact ⟨x0, x1, x2, x3, x4, x5, x6, x7, x8, x9, rfl⟩
set_option maxRecDepth 100000 in
set_option maxHeartbeats 4000000 in
theorem st_in {H : Type} {enc : TypeId × Value → H} {W : World} {rc : Reach} {base : Nat} {v : Value} {d : DataW H} {p : List MemPlace}
    (hv : Value.okWide Tryz.prog W rc base 45 v) (h : DataW.Trod enc Tryz.prog W 0 (fun _ => true) true 45 v d p) :
    ∃ (A0 : Option Addr) (n0 c0 : Nat) (A1 : Option Addr) (n1 c1 : Nat) (A2 : Option Addr) (n2 c2 : Nat) (A3 : Option Addr) (n3 c3 : Nat) (A4 : Option Addr) (n4 c4 : Nat) (A5 : Option Addr) (n5 c5 : Nat) (A6 : Option Addr) (n6 c6 : Nat) (xa xf xu : Int), v = .agg #[.slice A0 n0 c0, .slice A1 n1 c1, .int .i32 xa, .slice A2 n2 c2, .slice A3 n3 c3, .slice A4 n4 c4, .slice A5 n5 c5, .slice A6 n6 c6, .int .i64 xf, .int .i64 xu] ∧ (n0 ≤ 9223372036854775807 ∧ n1 ≤ 9223372036854775807 ∧ n2 ≤ 9223372036854775807 ∧ n3 ≤ 9223372036854775807 ∧ n4 ≤ 9223372036854775807 ∧ n5 ≤ 9223372036854775807 ∧ n6 ≤ 9223372036854775807) ∧
      StIn W (.slice A0 n0 c0) (.slice A1 n1 c1) (.slice A2 n2 c2) (.slice A3 n3 c3) (.slice A4 n4 c4) (.slice A5 n5 c5) (.slice A6 n6 c6) xa xf xu n0 n1 n2 n3 n4 n5 n6 := by
  obtain ⟨cs, rfl, hsz⟩ := okWide_struct Tryz.underlying45 hv
  obtain ⟨x0, x1, x2, x3, x4, x5, x6, x7, x8, x9, rfl⟩ := array10 (hsz.trans (by kernel_rfl))
  obtain ⟨fuel, hf⟩ := h
  obtain ⟨xs, n, _, hx, hl, hlen, hff⟩ := DataW.trod_struct Tryz.underlying45 hf
  have hlen : xs.length = 10 := hlen
  have q0 : DataW.trod enc Tryz.prog W 0 (fun _ => true) true n 24 [x0] = some (xs[0]'(by omega)) := (hff 0 _ rfl).trans (List.getElem?_eq_getElem (show 0 < xs.length by omega))
  have q1 : DataW.trod enc Tryz.prog W 0 (fun _ => true) true n 43 [x1] = some (xs[1]'(by omega)) := (hff 1 _ rfl).trans (List.getElem?_eq_getElem (show 1 < xs.length by omega))
  have q2 : DataW.trod enc Tryz.prog W 0 (fun _ => true) true n 21 [x2] = some (xs[2]'(by omega)) := (hff 2 _ rfl).trans (List.getElem?_eq_getElem (show 2 < xs.length by omega))
  have q3 : DataW.trod enc Tryz.prog W 0 (fun _ => true) true n 24 [x3] = some (xs[3]'(by omega)) := (hff 3 _ rfl).trans (List.getElem?_eq_getElem (show 3 < xs.length by omega))
  have q4 : DataW.trod enc Tryz.prog W 0 (fun _ => true) true n 26 [x4] = some (xs[4]'(by omega)) := (hff 4 _ rfl).trans (List.getElem?_eq_getElem (show 4 < xs.length by omega))
  have q5 : DataW.trod enc Tryz.prog W 0 (fun _ => true) true n 27 [x5] = some (xs[5]'(by omega)) := (hff 5 _ rfl).trans (List.getElem?_eq_getElem (show 5 < xs.length by omega))
  have q6 : DataW.trod enc Tryz.prog W 0 (fun _ => true) true n 22 [x6] = some (xs[6]'(by omega)) := (hff 6 _ rfl).trans (List.getElem?_eq_getElem (show 6 < xs.length by omega))
  have q7 : DataW.trod enc Tryz.prog W 0 (fun _ => true) true n 22 [x7] = some (xs[7]'(by omega)) := (hff 7 _ rfl).trans (List.getElem?_eq_getElem (show 7 < xs.length by omega))
  have q8 : DataW.trod enc Tryz.prog W 0 (fun _ => true) true n 3 [x8] = some (xs[8]'(by omega)) := (hff 8 _ rfl).trans (List.getElem?_eq_getElem (show 8 < xs.length by omega))
  have q9 : DataW.trod enc Tryz.prog W 0 (fun _ => true) true n 3 [x9] = some (xs[9]'(by omega)) := (hff 9 _ rfl).trans (List.getElem?_eq_getElem (show 9 < xs.length by omega))
  obtain ⟨A0, n0, c0, rfl, l0⟩ := signed_cell wf32 Tryz.underlying24 Tryz.underlying21 (by kernel_rfl) q0
  obtain ⟨A1, n1, c1, rfl, l1⟩ := slots_cell q1
  obtain ⟨xa, hxa, -, wa⟩ := DataW.trod_int Tryz.underlying21 q2
  obtain ⟨A2, n2, c2, rfl, l2⟩ := signed_cell wf32 Tryz.underlying24 Tryz.underlying21 (by kernel_rfl) q3
  obtain ⟨A3, n3, c3, rfl, l3⟩ := nums_cell Tryz.underlying26 Tryz.underlying36 (by kernel_rfl) q4
  obtain ⟨A4, n4, c4, rfl, l4⟩ := signed_cell wf64 Tryz.underlying27 Tryz.underlying3 (by kernel_rfl) q5
  obtain ⟨A5, n5, c5, rfl, l5⟩ := bytes_cell Tryz.underlying22 Tryz.underlying5 (by kernel_rfl) q6
  obtain ⟨A6, n6, c6, rfl, l6⟩ := bytes_cell Tryz.underlying22 Tryz.underlying5 (by kernel_rfl) q7
  obtain ⟨xf, hxf, -, wf⟩ := DataW.trod_int Tryz.underlying3 q8
  obtain ⟨xu, hxu, -, wu⟩ := DataW.trod_int Tryz.underlying3 q9
  obtain rfl : x2 = .int .i32 xa := by simpa using hxa
  obtain rfl : x8 = .int .i64 xf := by simpa using hxf
  obtain rfl : x9 = .int .i64 xu := by simpa using hxu
  refine ⟨A0, n0, c0, A1, n1, c1, A2, n2, c2, A3, n3, c3, A4, n4, c4, A5, n5, c5, A6, n6, c6, xa, xf, xu, rfl, ⟨l0.1, l1.1, l2.1, l3.1, l4.1, l5.1, l6.1⟩, fun hs => ?_⟩
  obtain ⟨y0, e0, b0, r0⟩ := l0.2.2 (by omega)
  obtain ⟨y1, e1, b1, r1⟩ := l1.2 (by omega)
  obtain ⟨y2, e2, b2, r2⟩ := l2.2.2 (by omega)
  obtain ⟨y3, e3, b3, r3⟩ := l3.2 (by omega)
  obtain ⟨y4, e4, b4, r4⟩ := l4.2.2 (by omega)
  obtain ⟨y5, e5, b5, r5⟩ := l5.2 (by omega)
  obtain ⟨y6, e6, b6, r6⟩ := l6.2 (by omega)
  refine ⟨⟨y0, y1, xa, y2, y3, y4, y5, y6, xf, xu⟩, e0, e1, e2, e3, e4, e5, e6, rfl, rfl, rfl, ⟨b0, b1, wf32 xa wa, b2, b3, b4, b5, b6, wf64 xf wf, wf64 xu wu⟩, ⟨fun A n c e => by injection e with h1 h2 h3; subst h2 h3; exact l4.2.1, ?_, r1, ?_, r3, ?_, r5, r6⟩⟩
  · exact ⟨A0, c0, by rw [← e0], by show y0.length ≤ _; omega, r0⟩
  · exact ⟨A2, c2, by rw [← e2], by show y2.length ≤ _; omega, r2⟩
  · exact ⟨A4, c4, by rw [← e4], by show y4.length ≤ _; omega, r4⟩
end Go.Proofs.YtdiaiflleiebfaaGreatDoor
