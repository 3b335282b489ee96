/-
  The words that look at Ret.
  What becomes of a state one of whose rows is changed.
  The word pop on a bench.
  (*bench).putSlot: a slot put on Ret.
  A walker's box; whether a place is one of code; what keeps a walker from its next step.
  Boxes of machines and walkers, stored whole.
  What impl.tried hands back.
  The ends of functions that tell a machine.
  Machines compared, marked, held.
  The table of the built-in words.
  The model's small test: spec.l01In answers whether a number lies between two.
  PrimName of both sides.
-/
import Derived.Test.YtmnfdbgiemappaaST8
import Derived.RegionTactic
import Derived.ChangeAlike
import Derived.IntWalk
import Derived.Test.YtmnfdbgiemappaaST6
import Derived.Deep.RegionLaw
import Derived.Test.YtmnfdbgiemappaaST2
import Derived.Test.YtmnfdbgiemappaaST7
import Derived.Test.YtmnfdbgiemappaaST4
import Derived.Test.YtmnfdbgiemappaaST5
import Derived.Test.YtmnfdbgiemappaaST1
import Derived.Handy
import Derived.Laws.Tables
import Derived.Deep.WholeRow
namespace Go.Proofs.Ytmnfdbgiemappaa
open Go.RowKit Go
variable {Z : BZ}

/-- The last slot of Ret. -/
theorem Taken.slot {w w1 : World} {g lo hi n cap k rc : Nat} {A R : Option Addr} {d m c v o i : Value} {S : S8} (h : Taken Z w w1 g lo hi A n cap d (.slice R S.ret.length rc) m c v o i S) (hk : S.ret.length = k + 1) : ∃ q t z, R = some ⟨q, 0, none⟩ ∧ k + 1 ≤ rc ∧ q < w1.heap.size ∧ S.ret.getLast? = some (t, z) ∧ w1.cell? ⟨q, k * 2, none⟩ = some (.int .i64 t) ∧ w1.cell? ⟨q, k * 2 + 1, none⟩ = some (.int .i32 z) := by
  rcases h.own.r.2 with ⟨e1, h0⟩ | ⟨q, cp, cur, e1, -, hrow, hle, -, hsz, ht⟩
  · omega
  · injection e1 with e1 e2 e3
    subst e1 e3
    have hlast : S.ret.getLast? = some (S.ret[k]'(by omega)) := by
      rw [List.getLast?_eq_getElem?]
      have e : S.ret.length - 1 = k := by omega
      rw [e]
      exact List.getElem?_eq_getElem _
    have hcell : ∀ j u, j < 2 → (slv S.ret)[k * 2 + j]? = some u → w1.cell? ⟨q, k * 2 + j, none⟩ = some u := fun j u hj hu => by
      rw [cell_of_row w1 q (k * 2 + j) cur 58 (0, 0) hrow]
      have h1 := congrArg (·[k * 2 + j]?) ht
      simp only [hu, List.getElem?_take] at h1
      rw [if_pos (by omega)] at h1
      simpa using h1
    exact ⟨q, (S.ret[k]'(by omega)).1, (S.ret[k]'(by omega)).2, rfl, by omega, (Array.getElem?_eq_some_iff.1 hrow).1, hlast, hcell 0 _ (by omega) (slv_get0 (by omega)), hcell 1 _ (by omega) (slv_get1 (by omega))⟩
/-- Only what is new has changed. -/
theorem Taken.far {w w1 w2 : World} {g lo hi n cap : Nat} {A : Option Addr} {d r m c v o i : Value} {S : S8} (h : Taken Z w w1 g lo hi A n cap d r m c v o i S) (hb : Below w1.heap.size w1 w2) : Taken Z w w2 g lo hi A n cap d r m c v o i S :=
  ⟨h.dform, h.le, h.hhi, h.hlo, h.chg.trans (.of_below hb), h.own.keep hb, h.box.below hb h.box.lt⟩
end Go.Proofs.Ytmnfdbgiemappaa

namespace Go.Proofs.Ytmnfdbgiemappaa
open Go.RowKit Go

theorem own_prefixG {w : World} {lo sz : Nat} {e : TypeId} {A : Option Addr} {N cap n : Nat} {xs : List Value} (h : w.ownsRow lo e sz (.slice A N cap) N xs) (hn : n ≤ N) : w.ownsRow lo e sz (.slice A n cap) n (xs.take (n * sz)) := by
  have hl := h.1
  have hm := Nat.mul_le_mul_right sz hn
  refine ⟨by rw [List.length_take]; omega, ?_⟩
  rcases h.2 with ⟨e1, h0⟩ | ⟨g, cp, cur, e1, hb, hg, hnc, hm2, hsz, ht⟩
  · injection e1 with e1 e2 e3
    subst e1 e3
    exact .inl ⟨by rw [show n = 0 by omega], by omega⟩
  · injection e1 with e1 e2 e3
    subst e1 e3
    refine .inr ⟨g, cap, cur, rfl, hb, hg, by omega, hm2, hsz, ?_⟩
    rw [← ht, List.take_take]
    congr 1
    omega
theorem slv_take : ∀ (xs : List (Int × Int)) (k : Nat), slv (xs.take k) = (slv xs).take (k * 2)
  | [], k => by simp [slv]
  | a :: r, 0 => by simp [slv]
  | a :: r, k + 1 => by
      rw [show (k + 1) * 2 = k * 2 + 1 + 1 by omega]
      simp only [List.take_succ_cons, slv, slv_take r k]
section
variable {w w' : World} {lo hi : Nat} {d r m c v o i : Value} {S : S8}
/-- A number of Mem is stored. -/
theorem OwnSt.setMem (h : OwnSt w lo hi d r m c v o i S) {q cq n : Nat} (hq : m = .slice (some ⟨q, 0, none⟩) n cq) (j : Nat) (x : Int) : OwnSt (w.setCell ⟨q, j, none⟩ (.int .i32 x)) lo hi d r m c v o i { S with mem := S.mem.set j x } := by
  have hob : m.ownBlock = some q := by rw [hq]; rfl
  have hG : w.grownBy (w.setCell ⟨q, j, none⟩ (.int .i32 x)) (some q) := only_setCell (World.grownBy.refl _ _) (.inl rfl) _
  have K : ∀ {e : TypeId} {size n : Nat} {x : Value} {xs : List Value} {W : World}, w.grownBy W (some q) → w.ownsRow lo e size x n xs → (x.ownBlock = none ∨ x.ownBlock ≠ m.ownBlock) → W.ownsRow lo e size x n xs := fun hg ho hne => ho.kept hg (by rw [← hob]; exact hne)
  refine ⟨h.top, h.dm, h.oi, K hG h.d h.dm, K hG h.r (rows_ne h.r h.m (by decide)), ?_, K hG h.c (rows_ne h.c h.m (by decide)), K hG h.v (rows_ne h.v h.m (by decide)), K hG h.o (rows_ne h.o h.m (by decide)), h.i.kept hG (by rw [← hob]; exact tail_ne h.i h.m (by decide))⟩
  show World.ownsRow _ lo _ 1 m (S.mem.set j x).length ((S.mem.set j x).map iv)
  have hm := h.m
  obtain ⟨M, cm, hM⟩ := own_formG hm
  rw [hq] at hM
  injection hM with e1 e2 e3
  subst e1 e2 e3
  rw [hq] at hm ⊢
  rw [List.length_set, List.map_set]
  exact (World.ownsRow.stored hm j (.int .i32 x)).1
/-- A cell is stored. -/
theorem OwnSt.setCells (h : OwnSt w lo hi d r m c v o i S) {q cq n : Nat} (hq : c = .slice (some ⟨q, 0, none⟩) n cq) (j : Nat) (x : Nat) : OwnSt (w.setCell ⟨q, j, none⟩ (.int .u32 (x : Int))) lo hi d r m c v o i { S with cells := S.cells.set j x } := by
  have hob : c.ownBlock = some q := by rw [hq]; rfl
  have hG : w.grownBy (w.setCell ⟨q, j, none⟩ (.int .u32 (x : Int))) (some q) := only_setCell (World.grownBy.refl _ _) (.inl rfl) _
  have K : ∀ {e : TypeId} {size n : Nat} {x : Value} {xs : List Value} {W : World}, w.grownBy W (some q) → w.ownsRow lo e size x n xs → (x.ownBlock = none ∨ x.ownBlock ≠ c.ownBlock) → W.ownsRow lo e size x n xs := fun hg ho hne => ho.kept hg (by rw [← hob]; exact hne)
  refine ⟨h.top, h.dm, h.oi, K hG h.d (rows_ne h.d h.c (by decide)), K hG h.r (rows_ne h.r h.c (by decide)), K hG h.m (rows_ne h.m h.c (by decide)), ?_, K hG h.v (rows_ne h.v h.c (by decide)), K hG h.o (rows_ne h.o h.c (by decide)), h.i.kept hG (by rw [← hob]; exact tail_ne h.i h.c (by decide))⟩
  show World.ownsRow _ lo _ 1 c (S.cells.set j x).length ((S.cells.set j x).map u32v)
  have hm := h.c
  obtain ⟨M, cm, hM⟩ := own_formG hm
  rw [hq] at hM
  injection hM with e1 e2 e3
  subst e1 e2 e3
  rw [hq] at hm ⊢
  rw [List.length_set, List.map_set]
  exact (World.ownsRow.stored hm j (u32v x)).1
/-- Out is another row. -/
theorem OwnSt.newOut (h : OwnSt w lo hi d r m c v o i S) (hh : hi ≤ w.heap.size) {o' : Value} {l : List Nat} (hd : w'.ownsRow lo 5 1 o' l.length (l.map b8v)) (hg : w.grownBy w' o.ownBlock) (hb : ∀ k, o'.ownBlock = some k → o.ownBlock = some k ∨ w.heap.size ≤ k) : OwnSt w' lo w'.heap.size d r m c v o' i { S with out := l } := by
  have K : ∀ {e : TypeId} {size n : Nat} {x : Value} {xs : List Value}, w.ownsRow lo e size x n xs → (x.ownBlock = none ∨ x.ownBlock ≠ o.ownBlock) → w'.ownsRow lo e size x n xs := fun ho hne => ho.kept hg hne
  have hi2 := h.i.kept hg (apart_sym h.oi)
  refine OwnSt.of7T (S := { S with out := l }) (K h.d (rows_ne h.d h.o (by decide))) (K h.r (rows_ne h.r h.o (by decide))) (K h.m (rows_ne h.m h.o (by decide))) (K h.c (rows_ne h.c h.o (by decide))) (K h.v (rows_ne h.v h.o (by decide))) hd hi2 h.dm ?_
  cases hq : o'.ownBlock with
  | none => exact .inl rfl
  | some k =>
    refine .inr fun e => ?_
    rcases hb k hq with h1 | h1
    · rcases h.oi with h2 | h2
      · rw [h1] at h2; cases h2
      · exact h2 (h1.trans e)
    · have := h.top i (by simp) k e.symm
      omega
/-- Ret is another row. -/
theorem OwnSt.newRet (h : OwnSt w lo hi d r m c v o i S) {r' : Value} {l : List (Int × Int)} (hd : w'.ownsRow lo 58 2 r' l.length (slv l)) (hg : w.grownBy w' r.ownBlock) : OwnSt w' lo w'.heap.size d r' m c v o i { S with ret := l } := by
  have K : ∀ {e : TypeId} {size n : Nat} {x : Value} {xs : List Value}, w.ownsRow lo e size x n xs → (x.ownBlock = none ∨ x.ownBlock ≠ r.ownBlock) → w'.ownsRow lo e size x n xs := fun ho hne => ho.kept hg hne
  exact OwnSt.of7T (S := { S with ret := l }) (K h.d (rows_ne h.d h.r (by decide))) hd (K h.m (rows_ne h.m h.r (by decide))) (K h.c (rows_ne h.c h.r (by decide))) (K h.v (rows_ne h.v h.r (by decide))) (K h.o (rows_ne h.o h.r (by decide))) (h.i.kept hg (tail_ne h.i h.r (by decide))) h.dm h.oi
/-- The top of Ret is left out. -/
theorem OwnSt.popRet {q k rc : Nat} (h : OwnSt w lo hi d (.slice (some ⟨q, 0, none⟩) (k + 1) rc) m c v o i S) (hk : S.ret.length = k + 1) : OwnSt w lo hi d (.slice (some ⟨q, 0, none⟩) k rc) m c v o i { S with ret := S.ret.dropLast } := by
  have h0 := h.r
  rw [hk] at h0
  have hr := own_prefixG h0 (n := k) (by omega)
  have e1 : S.ret.dropLast = S.ret.take k := by rw [List.dropLast_eq_take, hk]; rfl
  have e2 : (S.ret.take k).length = k := by simp; omega
  rw [← slv_take, ← e1] at hr
  refine ⟨?_, h.dm, h.oi, h.d, ?_, h.m, h.c, h.v, h.o, h.i⟩
  · have ht := h.top
    intro x hx kk hkk
    simp only [List.mem_cons, List.not_mem_nil, or_false] at hx
    rcases hx with rfl | rfl | hx
    · exact ht _ (by simp) kk hkk
    · exact ht (.slice (some ⟨q, 0, none⟩) (k + 1) rc) (by simp) kk hkk
    · exact ht x (by rcases hx with rfl | rfl | rfl | rfl | rfl <;> simp) kk hkk
  · show World.ownsRow _ lo _ 2 _ S.ret.dropLast.length _
    rw [e1, e2, ← e1]
    exact hr
/-- The first byte of In is left out. -/
theorem OwnSt.dropInp {k ic b : Nat} {I : Option Addr} {rest : List Nat} (h : OwnSt w lo hi d r m c v o (.slice I (k + 1) ic) S) (hk : S.inp = b :: rest) (hl : rest.length = k) : OwnSt w lo hi d r m c v o (.slice (if ic = 1 then I else I.map (·.add 1)) k (ic - 1)) { S with inp := rest } := by
  have e1 : S.inp.length = k + 1 := by rw [hk, List.length_cons, hl]
  have hr : TailB w lo 5 (.slice (if ic = 1 then I else I.map (·.add 1)) k (ic - 1)) k (rest.map b8v) := by
    have h1 := h.i
    rw [e1, hk] at h1
    exact h1.drop 1 (by omega)
  have hob : ∀ q, (Value.slice (if ic = 1 then I else I.map (·.add 1)) k (ic - 1)).ownBlock = some q → (Value.slice I (k + 1) ic).ownBlock = some q := by
    intro q hq
    have h2 : (Value.slice (if ic = 1 then I else I.map (·.add 1)) k (ic - 1)).ownBlock = (Value.slice I (k + 1) ic).ownBlock := by
      cases I with
      | none => split <;> rfl
      | some a => split <;> simp [Value.ownBlock, addr_addb]
    rw [← h2]; exact hq
  refine ⟨?_, h.dm, ?_, h.d, h.r, h.m, h.c, h.v, h.o, ?_⟩
  · have ht := h.top
    intro x hx kk hkk
    simp only [List.mem_cons, List.not_mem_nil, or_false] at hx
    rcases hx with rfl | rfl | rfl | rfl | rfl | rfl | rfl
    · exact ht _ (by simp) kk hkk
    · exact ht _ (by simp) kk hkk
    · exact ht _ (by simp) kk hkk
    · exact ht _ (by simp) kk hkk
    · exact ht _ (by simp) kk hkk
    · exact ht _ (by simp) kk hkk
    · exact ht (.slice I (k + 1) ic) (by simp) kk (hob kk hkk)
  · rcases h.oi with h1 | h1
    · exact .inl h1
    · cases hq : o.ownBlock with
      | none => exact .inl rfl
      | some q => exact .inr fun e => h1 (by rw [hq]; exact (hob q e.symm).symm)
  · show TailB w lo _ _ rest.length _
    rw [hl]
    exact hr
end
end Go.Proofs.Ytmnfdbgiemappaa

namespace Go.Proofs.Ytmnfdbgiemappaa
open Go.RowKit Go
variable {Z : BZ}

/-- The top of Ret has been taken. -/
theorem pop_end {w w1 : World} {g lo hi k rc q : Nat} {d m c v o i : Value} {S : S8} (hk : S.ret.length = k + 1) (ho : OwnSt w1 lo hi d (.slice (some ⟨q, 0, none⟩) S.ret.length rc) m c v o i S) (hB : Blk w1 g Z.t (Z.cs #[d, .slice (some ⟨q, 0, none⟩) S.ret.length rc, .int .i32 S.a, m, c, v, o, i, .int .i64 S.fault, .int .i64 S.fuel])) (hc : Chg w w1 (fun k => k = g)) :
    let W := w1.setCell ⟨g, 1, none⟩ (.slice (some ⟨q, 0, none⟩) k rc)
    Chg w W (fun k => k = g) ∧ OwnSt W lo hi d (.slice (some ⟨q, 0, none⟩) S.ret.length rc) m c v o i S ∧ OwnSt W lo hi d (.slice (some ⟨q, 0, none⟩) k rc) m c v o i { S with ret := S.ret.dropLast } ∧ Blk W g Z.t (Z.cs #[d, .slice (some ⟨q, 0, none⟩) k rc, .int .i32 S.a, m, c, v, o, i, .int .i64 S.fault, .int .i64 S.fuel]) := by
  intro W
  have hown := ho.atBox hB (only_setCell (World.grownBy.refl _ _) (p := ⟨g, 1, none⟩) (.inl rfl) (.slice (some ⟨q, 0, none⟩) k rc)) Z.n1 Z.n2 Z.n3 Z.n4 Z.n5
  have hr := own_prefixG hown.r (n := k) (by omega)
  have e1 : S.ret.dropLast = S.ret.take k := by rw [List.dropLast_eq_take, hk]; rfl
  have e2 : (S.ret.take k).length = k := by simp; omega
  rw [← slv_take, ← e1] at hr
  refine ⟨hc.set rfl _, hown, ⟨?_, hown.dm, hown.oi, hown.d, ?_, hown.m, hown.c, hown.v, hown.o, hown.i⟩, by have := hB.putZ 1 (by simp) (.slice (some ⟨q, 0, none⟩) k rc); simpa using this⟩
  · have ht := hown.top
    intro x hx kk hkk
    simp only [List.mem_cons, List.not_mem_nil, or_false] at hx
    rcases hx with rfl | rfl | hx
    · exact ht _ (by simp) kk hkk
    · exact ht (.slice (some ⟨q, 0, none⟩) S.ret.length rc) (by simp) kk hkk
    · exact ht x (by rcases hx with rfl | rfl | rfl | rfl | rfl <;> simp) kk hkk
  · show World.ownsRow _ lo _ 2 _ S.ret.dropLast.length _
    rw [e1, e2, ← e1]
    exact hr
end Go.Proofs.Ytmnfdbgiemappaa

namespace Go.Proofs.Ytmnfdbgiemappaa
open Go.RowKit Go
variable {Z : BZ}

theorem step_append_src {P : Program} {ops : Array Oper} {o : Oper} {a : Act} {w : World} {K : Act → World → Prop} {Q : Exit → Act → World → Prop} {E : Prop} (hgd : o.guard = none) (s x : Operand) (t : TypeId)
    (ho : o.op = .call { callee := .builtin .append, args := #[s, x], argTypes := #[t, t] })
    (base : Nat) (e : TypeId) (i : TypeInfo) (z : Value) (size bytes : Nat) (ht : P.underlying t = some (.slice e)) (hi : P.info? e = some i) (hz : i.zero = some z)
    (hsize : i.size = size) (hby : i.bytes = bytes) (hzs : z.cells.size = size) (hsz : 0 < size)
    (v : Value) (n : Nat) (xs : List Value) (hs : a.eval s = v) (hown : w.ownsRow base e size v n xs)
    (u : Value) (m : Nat) (ys : List Value) (hx : a.eval x = u) (hsrc : SrcAt w size u m ys) (h1 : ∀ x ∈ ys, x.oneCell' = true)
    (h63 : n + m ≤ maxLen) (hbytes : (n + m) * bytes ≤ 140737488355328) (hbase : base ≤ w.heap.size)
    (h : ∀ v' w', w'.ownsRow base e size v' (n + m) (xs ++ ys) → Hid (AppAlt w w' v v' n m) → K (a.put o.dst v') w') :
    if Region.wanted o (yielded ops a.tmps) = true then Oper.wp P o a w K Q else E := by
  have hw : Region.wanted o (yielded ops a.tmps) = true := by simp [Region.wanted, hgd]
  rw [if_pos hw]
  obtain ⟨v', w', hrun, h2, h3⟩ := run_append_alt (P := P) base t o.type e i z size bytes ht hi hz hsize hby hzs hsz v n xs hown u m ys hsrc h1 h63 hbytes hbase
  unfold Oper.wp
  simp [execOp, ho, resolve, invoke, builtin, hs, hx, hrun, Result.andThen]
  exact h v' w' h2 (Lib.hid h3)
/-- A slot has been put: the bench's box, the row. -/
def ToldR (Z : BZ) (lo g : Nat) (w : World) (v : Value) (n : Nat) (X : List (Int × Int)) (x0 x2 x3 x4 x5 x6 x7 x8 x9 : Value) (e : Ending) (w' : World) : Prop :=
  ∃ v', e = .returned (.int .i64 (if 24 < X.length then 3 else 0)) ∧ Blk w' g Z.t (Z.cs #[x0, v', x2, x3, x4, x5, x6, x7, x8, x9]) ∧ w'.ownsRow lo 58 2 v' X.length (slv X) ∧ PutAlt w w' g v v' n X.length
set_option maxRecDepth 100000 in
set_option maxHeartbeats 1500000 in
theorem putSlot_any (lo g : Nat) (A : Option Addr) (n cap : Nat) (xs : List (Int × Int)) (s z : Int) (x0 x2 x3 x4 x5 x6 x7 x8 x9 : Value) (w : World) (hn : xs.length = n) (hx : n ≤ 24) (hlo : lo ≤ w.heap.size)
    (hB : Blk w g Z.t (Z.cs #[x0, .slice A n cap, x2, x3, x4, x5, x6, x7, x8, x9])) (hO : w.ownsRow lo 58 2 (.slice A n cap) n (slv xs)) :
    Calls Try.prog 36 #[.pointer (some ⟨g, 0, none⟩), .agg #[.int .i64 s, .int .i32 z]] w (ToldR Z lo g w (.slice A n cap) n (xs ++ [(s, z)]) x0 x2 x3 x4 x5 x6 x7 x8 x9) := by
  obtain ⟨i0, hi0, hz0, hz1, hz2⟩ := info_parts infoS
  have OD := Lib.hid hO
  have KB := Lib.hid hB
  have hg : g < w.heap.size := hB.lt
  obtain ⟨W, hW⟩ : ∃ W, W = ((w.alloc (.cells #[.int .i64 s, .int .i32 z] 58)).alloc (.cells #[.int .i64 s, .int .i32 z] 58)).drew := ⟨_, rfl⟩
  have HWB : Hid (Below w.heap.size w W) := Lib.hid (by rw [hW]; exact (below_alloc2 w _ _).drew)
  have SRC : Hid (SrcAt W 2 (.slice (some ⟨w.heap.size + 1, 0, none⟩) 1 1) 1 (slv [(s, z)])) := Lib.hid (by
    rw [hW]
    have hb := heap_alloc_new (w.alloc (.cells #[.int .i64 s, .int .i32 z] 58)) (.cells #[.int .i64 s, .int .i32 z] 58)
    rw [World.size_alloc] at hb
    refine ⟨_, _, rfl, rfl, (by simp), ?_⟩
    intro a ha j x hj
    injection ha with ha
    subst ha
    rw [addr_lit, Nat.zero_add]
    show World.cell? ((w.alloc (.cells #[.int .i64 s, .int .i32 z] 58)).alloc (.cells #[.int .i64 s, .int .i32 z] 58)) _ = _
    rw [cell_of_row _ _ j _ _ _ hb]
    simpa [slv] using hj)
  have OD2 : Hid (W.ownsRow lo 58 2 (.slice A n cap) n (slv xs)) := Lib.hid (own_same hO fun k hk => HWB.out.block k (World.ownsRow.lt hO k hk).2)
  have KBW : Hid (Blk W g Z.t (Z.cs #[x0, .slice A n cap, x2, x3, x4, x5, x6, x7, x8, x9])) := Lib.hid (hB.below HWB.out hB.lt)
  have hsW : lo ≤ W.heap.size := Nat.le_trans hlo HWB.out.size
  have HSW := Lib.hid hsW
  have hne : some g ≠ (Value.slice A n cap).ownBlock := box_neG KB.out OD.out Z.n2
  have HNE := Lib.hid hne
  have HW := Lib.hid hW
  obtain ⟨p0, p1, p2, p3, p4, p5, p6, p7, p8, p9⟩ := bz_cells hB
  have f0 := hB.frozen
  have f1 := f0 1
  have HN := Lib.hid hn
  have HX := Lib.hid hx
  have e1 : n + 1 ≤ maxLen := by unfold maxLen; omega
  have e2 : (n + 1) * 16 ≤ 140737488355328 := by omega
  clear hO hB hn hsW hne hW hx hlo f0
  go_enter Try.func36, Try.ntmps36
  go_wp2_with fail
  go_region_law (rw [← HW.out]; refine step_append_src rfl _ _ 32 rfl lo 58 i0 (.agg #[.int .i64 0, .int .i32 0]) 2 16 Try.underlying32 hi0 hz0 hz1 hz2 rfl (by decide) (.slice A n cap) n (slv xs) rfl OD2.out (.slice (some ⟨w.heap.size + 1, 0, none⟩) 1 1) 1 (slv [(s, z)]) rfl SRC.out slv_one e1 e2 HSW.out ?_; intro v' w2 hown halt; obtain ⟨D, dc, hv⟩ := own_formG hown; subst hv; have HO2 := Lib.hid hown; have KB2 := Lib.hid (KBW.out.grown halt.out.grown HNE.out); clear hown; clear p0 p1 p2 p3 p4 p5 p6 p7 p8 p9 f1; have hg2 := KB2.out.lt; obtain ⟨p0, p1, p2, p3, p4, p5, p6, p7, p8, p9⟩ := bz_cells KB2.out; have f1 := KB2.out.frozen 1)
  all_goals
    have hgr := halt.out.grown
    have hlen : (xs ++ [(s, z)]).length = n + 1 := by rw [List.length_append, HN.out]; rfl
    have hown2 : w2.ownsRow lo 58 2 (.slice D (n + 1) dc) (n + 1) (slv (xs ++ [(s, z)])) := by rw [slv_app]; exact HO2.out
    have HT : Hid (∀ e, e = .returned (.int .i64 (if 24 < n + 1 then 3 else 0)) → ToldR Z lo g w (.slice A n cap) n (xs ++ [(s, z)]) x0 x2 x3 x4 x5 x6 x7 x8 x9 e (w2.setCell ⟨g, 1, none⟩ (.slice D (n + 1) dc))) := Lib.hid (by
      rintro e rfl
      have hned : (Value.slice D (n + 1) dc).ownBlock = none ∨ (Value.slice D (n + 1) dc).ownBlock ≠ some g := .inr fun e => box_neG KB2.out hown2 Z.n2 e.symm
      refine ⟨.slice D (n + 1) dc, by rw [hlen], by have := KB2.out.putZ 1 (by simp) (.slice D (n + 1) dc); simpa using this, ?_, ?_⟩
      · rw [hlen]
        exact hown2.kept (row := some g) (only_setCell (World.grownBy.refl _ _) (.inl rfl) _) hned
      · rw [hlen]
        rcases halt.out with ⟨q, cp, e1, h1, e2, h2⟩ | ⟨h1, h2⟩
        · exact .inl ⟨q, cp, e1, e2, h1, ((Chg.of_below HWB.out).trans (Chg.of_grown h2 (P := fun k => k = g ∨ k = q) (fun k hk => .inr (by injection hk with hk; exact hk.symm)))).set (.inl rfl) _⟩
        · exact .inr ⟨((Chg.of_below HWB.out).trans (Chg.of_below h1 (P := fun k => k = g))).set rfl _, fun k hk => Nat.le_trans HWB.out.size (h2 k hk)⟩)
    clear hgr hown2 hlen KB OD SRC halt OD2 KBW HWB HNE HSW HW
    by_cases h16 : 24 < n + 1
    · have g1 : (24 : Int) < (n : Int) + 1 := by omega
      have HT2 := Lib.hid (HT.out _ (by rw [if_pos h16]))
      clear h16 HT
      go_wp2_with fail
      go_ret
      exact HT2.out
    · have g1 : ¬ (24 : Int) < (n : Int) + 1 := by omega
      have HT2 := Lib.hid (HT.out _ (by rw [if_neg h16]))
      clear h16 HT
      go_wp2_with fail
      go_ret
      exact HT2.out
end Go.Proofs.Ytmnfdbgiemappaa

namespace Go.Proofs.Ytmnfdbgiemappaa
open Go.RowKit Go

/-- A walker: a bench, its code, its place, whether it is done. -/
def wz (cv : Value) (p : Int) (dn : Bool) : BZ := ⟨70, #[cv, .int .i64 p, .bool dn], by decide, by decide, by decide, by decide, by decide⟩
theorem wz_iff {w : World} {g : Nat} {cv : Value} {p : Int} {dn : Bool} {x0 x1 x2 x3 x4 x5 x6 x7 x8 x9 : Value} : Blk w g (wz cv p dn).t ((wz cv p dn).cs #[x0, x1, x2, x3, x4, x5, x6, x7, x8, x9]) ↔ Blk w g 70 #[x0, x1, x2, x3, x4, x5, x6, x7, x8, x9, cv, .int .i64 p, .bool dn] := by
  unfold BZ.cs wz
  simp
theorem walk_cells {w : World} {g : Nat} {t : TypeId} {x0 x1 x2 x3 x4 x5 x6 x7 x8 x9 x10 x11 x12 : Value} (k : Blk w g t #[x0, x1, x2, x3, x4, x5, x6, x7, x8, x9, x10, x11, x12]) :
    w.cell? ⟨g, 0, none⟩ = some x0 ∧ w.cell? ⟨g, 1, none⟩ = some x1 ∧ w.cell? ⟨g, 2, none⟩ = some x2 ∧ w.cell? ⟨g, 3, none⟩ = some x3 ∧ w.cell? ⟨g, 4, none⟩ = some x4 ∧ w.cell? ⟨g, 5, none⟩ = some x5 ∧ w.cell? ⟨g, 6, none⟩ = some x6 ∧ w.cell? ⟨g, 7, none⟩ = some x7 ∧ w.cell? ⟨g, 8, none⟩ = some x8 ∧ w.cell? ⟨g, 9, none⟩ = some x9 ∧ w.cell? ⟨g, 10, none⟩ = some x10 ∧ w.cell? ⟨g, 11, none⟩ = some x11 ∧ w.cell? ⟨g, 12, none⟩ = some x12 :=
  ⟨k.cell 0, k.cell 1, k.cell 2, k.cell 3, k.cell 4, k.cell 5, k.cell 6, k.cell 7, k.cell 8, k.cell 9, k.cell 10, k.cell 11, k.cell 12⟩
theorem mach_cells {w : World} {g : Nat} {t : TypeId} {x0 x1 x2 x3 x4 x5 x6 x7 x8 x9 x10 x11 : Value} (k : Blk w g t #[x0, x1, x2, x3, x4, x5, x6, x7, x8, x9, x10, x11]) :
    w.cell? ⟨g, 0, none⟩ = some x0 ∧ w.cell? ⟨g, 1, none⟩ = some x1 ∧ w.cell? ⟨g, 2, none⟩ = some x2 ∧ w.cell? ⟨g, 3, none⟩ = some x3 ∧ w.cell? ⟨g, 4, none⟩ = some x4 ∧ w.cell? ⟨g, 5, none⟩ = some x5 ∧ w.cell? ⟨g, 6, none⟩ = some x6 ∧ w.cell? ⟨g, 7, none⟩ = some x7 ∧ w.cell? ⟨g, 8, none⟩ = some x8 ∧ w.cell? ⟨g, 9, none⟩ = some x9 ∧ w.cell? ⟨g, 10, none⟩ = some x10 ∧ w.cell? ⟨g, 11, none⟩ = some x11 :=
  ⟨k.cell 0, k.cell 1, k.cell 2, k.cell 3, k.cell 4, k.cell 5, k.cell 6, k.cell 7, k.cell 8, k.cell 9, k.cell 10, k.cell 11⟩
/-- A place of code. -/
def inCode (n : Nat) (p : Int) : Bool := decide (0 ≤ p ∧ p < (n : Int))
theorem isplace_any (A : Option Addr) (n cap : Nat) (p : Int) (w : World) : Calls Try.prog 55 #[.slice A n cap, .int .i64 p] w fun e w' => e = .returned (.bool (inCode n p)) ∧ w = w' := by
  unfold inCode
  by_cases h0 : 0 ≤ p
  · by_cases h1 : p < (n : Int)
    · rw [decide_eq_true ⟨h0, h1⟩]
      go_enter Try.func55, Try.ntmps55
      go_wp2_with fail
      go_ret
      exact ⟨rfl, rfl⟩
    · rw [decide_eq_false (fun h => h1 h.2)]
      go_enter Try.func55, Try.ntmps55
      go_wp2_with fail
      go_ret
      exact ⟨rfl, rfl⟩
  · rw [decide_eq_false (fun h => h0 h.1)]
    go_enter Try.func55, Try.ntmps55
    go_wp2_with fail
    go_ret
    exact ⟨rfl, rfl⟩
set_option maxRecDepth 100000 in
set_option maxHeartbeats 2000000 in
theorem halt_any (g : Nat) (p f : Int) (dn : Bool) (x0 x1 x2 x3 x4 x5 x6 x7 x9 cv : Value) (w : World) (hB : Blk w g 70 #[x0, x1, x2, x3, x4, x5, x6, x7, .int .i64 f, x9, cv, .int .i64 p, .bool dn]) : Calls Try.prog 33 #[.pointer (some ⟨g, 0, none⟩)] w fun e w' => e = .returned (.agg #[.bool dn, .int .i64 f]) ∧ Below w.heap.size w w' := by
  have hg := hB.lt
  have q8 := (hB.alloc (.cells #[.bool false, .int .i64 0] 74)).cell 8
  have q12 := (hB.alloc (.cells #[.bool false, .int .i64 0] 74)).cell 12
  go_enter Try.func33, Try.ntmps33
  go_wp2_with fail
  go_region
  all_goals go_wp2_with fail
  all_goals exact bodyPost_ret (v := .agg #[.bool dn, .int .i64 f]) (by simp [results, Try.results33, go_sem]) rfl ⟨rfl, by go_grown⟩
end Go.Proofs.Ytmnfdbgiemappaa

namespace Go.Proofs.Ytmnfdbgiemappaa
open Go.RowKit Go

/-- A box of 12 cells is stored whole. -/
def putM (w : World) (g : Nat) (x0 x1 x2 x3 x4 x5 x6 x7 x8 x9 x10 x11 : Value) : World := ((((((((((((w.setCell ⟨g, 0, none⟩ x0).setCell ⟨g, 1, none⟩ x1).setCell ⟨g, 2, none⟩ x2).setCell ⟨g, 3, none⟩ x3).setCell ⟨g, 4, none⟩ x4).setCell ⟨g, 5, none⟩ x5).setCell ⟨g, 6, none⟩ x6).setCell ⟨g, 7, none⟩ x7).setCell ⟨g, 8, none⟩ x8).setCell ⟨g, 9, none⟩ x9).setCell ⟨g, 10, none⟩ x10).setCell ⟨g, 11, none⟩ x11)
theorem putM_blk {w : World} {g : Nat} {t : TypeId} {y0 y1 y2 y3 y4 y5 y6 y7 y8 y9 y10 y11 : Value} (h : Blk w g t #[y0, y1, y2, y3, y4, y5, y6, y7, y8, y9, y10, y11]) (x0 x1 x2 x3 x4 x5 x6 x7 x8 x9 x10 x11 : Value) : Blk (putM w g x0 x1 x2 x3 x4 x5 x6 x7 x8 x9 x10 x11) g t #[x0, x1, x2, x3, x4, x5, x6, x7, x8, x9, x10, x11] := by
  have := ((((((((((((h.put 0 x0).put 1 x1).put 2 x2).put 3 x3).put 4 x4).put 5 x5).put 6 x6).put 7 x7).put 8 x8).put 9 x9).put 10 x10).put 11 x11)
  simpa [putM] using this
theorem putM_only (w : World) (g : Nat) (x0 x1 x2 x3 x4 x5 x6 x7 x8 x9 x10 x11 : Value) : w.grownBy (putM w g x0 x1 x2 x3 x4 x5 x6 x7 x8 x9 x10 x11) (some g) := by
  unfold putM
  refine only_setCell ?_ (.inl rfl) _
  refine only_setCell ?_ (.inl rfl) _
  refine only_setCell ?_ (.inl rfl) _
  refine only_setCell ?_ (.inl rfl) _
  refine only_setCell ?_ (.inl rfl) _
  refine only_setCell ?_ (.inl rfl) _
  refine only_setCell ?_ (.inl rfl) _
  refine only_setCell ?_ (.inl rfl) _
  refine only_setCell ?_ (.inl rfl) _
  refine only_setCell ?_ (.inl rfl) _
  refine only_setCell ?_ (.inl rfl) _
  refine only_setCell ?_ (.inl rfl) _
  exact World.grownBy.refl _ _
theorem putM_size (w : World) (g : Nat) (x0 x1 x2 x3 x4 x5 x6 x7 x8 x9 x10 x11 : Value) : (putM w g x0 x1 x2 x3 x4 x5 x6 x7 x8 x9 x10 x11).heap.size = w.heap.size := by
  have hz : ∀ (w : World) (p : Addr) (u : Value), (w.setCell p u).heap.size = w.heap.size := fun w p u => by simp [World.setCell]
  unfold putM
  simp only [hz]
/-- A box of 13 cells is stored whole. -/
def putW (w : World) (g : Nat) (x0 x1 x2 x3 x4 x5 x6 x7 x8 x9 x10 x11 x12 : Value) : World := (((((((((((((w.setCell ⟨g, 0, none⟩ x0).setCell ⟨g, 1, none⟩ x1).setCell ⟨g, 2, none⟩ x2).setCell ⟨g, 3, none⟩ x3).setCell ⟨g, 4, none⟩ x4).setCell ⟨g, 5, none⟩ x5).setCell ⟨g, 6, none⟩ x6).setCell ⟨g, 7, none⟩ x7).setCell ⟨g, 8, none⟩ x8).setCell ⟨g, 9, none⟩ x9).setCell ⟨g, 10, none⟩ x10).setCell ⟨g, 11, none⟩ x11).setCell ⟨g, 12, none⟩ x12)
theorem putW_blk {w : World} {g : Nat} {t : TypeId} {y0 y1 y2 y3 y4 y5 y6 y7 y8 y9 y10 y11 y12 : Value} (h : Blk w g t #[y0, y1, y2, y3, y4, y5, y6, y7, y8, y9, y10, y11, y12]) (x0 x1 x2 x3 x4 x5 x6 x7 x8 x9 x10 x11 x12 : Value) : Blk (putW w g x0 x1 x2 x3 x4 x5 x6 x7 x8 x9 x10 x11 x12) g t #[x0, x1, x2, x3, x4, x5, x6, x7, x8, x9, x10, x11, x12] := by
  have := (((((((((((((h.put 0 x0).put 1 x1).put 2 x2).put 3 x3).put 4 x4).put 5 x5).put 6 x6).put 7 x7).put 8 x8).put 9 x9).put 10 x10).put 11 x11).put 12 x12)
  simpa [putW] using this
theorem putW_only (w : World) (g : Nat) (x0 x1 x2 x3 x4 x5 x6 x7 x8 x9 x10 x11 x12 : Value) : w.grownBy (putW w g x0 x1 x2 x3 x4 x5 x6 x7 x8 x9 x10 x11 x12) (some g) := by
  unfold putW
  refine only_setCell ?_ (.inl rfl) _
  refine only_setCell ?_ (.inl rfl) _
  refine only_setCell ?_ (.inl rfl) _
  refine only_setCell ?_ (.inl rfl) _
  refine only_setCell ?_ (.inl rfl) _
  refine only_setCell ?_ (.inl rfl) _
  refine only_setCell ?_ (.inl rfl) _
  refine only_setCell ?_ (.inl rfl) _
  refine only_setCell ?_ (.inl rfl) _
  refine only_setCell ?_ (.inl rfl) _
  refine only_setCell ?_ (.inl rfl) _
  refine only_setCell ?_ (.inl rfl) _
  refine only_setCell ?_ (.inl rfl) _
  exact World.grownBy.refl _ _
theorem putW_size (w : World) (g : Nat) (x0 x1 x2 x3 x4 x5 x6 x7 x8 x9 x10 x11 x12 : Value) : (putW w g x0 x1 x2 x3 x4 x5 x6 x7 x8 x9 x10 x11 x12).heap.size = w.heap.size := by
  have hz : ∀ (w : World) (p : Addr) (u : Value), (w.setCell p u).heap.size = w.heap.size := fun w p u => by simp [World.setCell]
  unfold putW
  simp only [hz]
theorem OwnSt.only {w w' : World} {lo hi g : Nat} {d r m c v o i : Value} {S : S8} (h : OwnSt w lo hi d r m c v o i S) (hg : w.grownBy w' (some g)) (hp : g < lo ∨ hi ≤ g) : OwnSt w' lo hi d r m c v o i S :=
  h.same fun k h1 h2 h3 => hg.block k h3 (fun e => by injection e with e; omega)
end Go.Proofs.Ytmnfdbgiemappaa

namespace Go.Proofs.Ytmnfdbgiemappaa
open Go.RowKit Go

/-- A state handed back, whose rows may lie in rows that were handed in. -/
def TriedEnd (w : World) (lo hi : Nat) (T : S8) (e : Ending) (w' : World) : Prop :=
  ∃ d r m c v o i, e = .returned (.agg #[d, r, .int .i32 T.a, m, c, v, o, i, .int .i64 T.fault, .int .i64 T.fuel]) ∧ OwnSt w' lo w'.heap.size d r m c v o i T ∧ Chg w w' (fun k => lo ≤ k ∧ k < hi)
theorem Chg.setNew {w w' : World} {P : Nat → Prop} (h : Chg w w' P) {p : Addr} (hp : w.heap.size ≤ p.block) (u : Value) : Chg w (w'.setCell p u) P :=
  ⟨h.os, h.tape, h.output, by simpa [World.setCell] using h.size, fun k hk hn => (Below.heap_setCell w' p u k (by rintro rfl; omega)).trans (h.block k hk hn)⟩
theorem Chg.putSt {w w' : World} {P : Nat → Prop} (h : Chg w w' P) {g : Nat} (hg : w.heap.size ≤ g) (x0 x1 x2 x3 x4 x5 x6 x7 x8 x9 : Value) : Chg w (putSt w' g x0 x1 x2 x3 x4 x5 x6 x7 x8 x9) P :=
  have k := putSt_only w' g x0 x1 x2 x3 x4 x5 x6 x7 x8 x9
  ⟨k.os.trans h.os, k.tape.trans h.tape, k.output.trans h.output, Nat.le_trans h.size k.size, fun j hj hn => (k.block j (Nat.lt_of_lt_of_le hj h.size) (fun e => by injection e with e; omega)).trans (h.block j hj hn)⟩
end Go.Proofs.Ytmnfdbgiemappaa

namespace Go.Proofs.Ytmnfdbgiemappaa
open Go.RowKit Go

/-- A new machine. -/
def NewMach (w : World) (m : M8) (e : Ending) (w' : World) : Prop :=
  ∃ d r m_ c v o i, e = .returned (.agg #[d, r, .int .i32 m.1.a, m_, c, v, o, i, .int .i64 m.1.fault, .int .i64 m.1.fuel, .int .i64 m.2.1, .bool m.2.2]) ∧ OwnSt w' w.heap.size w'.heap.size d r m_ c v o i m.1 ∧ Below w.heap.size w w'
/-- A state's box and the box of a machine that is told, both new. -/
theorem stm_boxes (w : World) (cs : Array Value) : Hid (Blk ((w.alloc (.cells cs 34)).alloc (.cells #[.slice none 0 0, .slice none 0 0, .int .i32 0, .slice none 0 0, .slice none 0 0, .slice none 0 0, .slice none 0 0, .slice none 0 0, .int .i64 0, .int .i64 0, .int .i64 0, .bool false] 36)) w.heap.size 34 cs) ∧ Hid (Blk ((w.alloc (.cells cs 34)).alloc (.cells #[.slice none 0 0, .slice none 0 0, .int .i32 0, .slice none 0 0, .slice none 0 0, .slice none 0 0, .slice none 0 0, .slice none 0 0, .int .i64 0, .int .i64 0, .int .i64 0, .bool false] 36)) (w.heap.size + 1) 36 #[.slice none 0 0, .slice none 0 0, .int .i32 0, .slice none 0 0, .slice none 0 0, .slice none 0 0, .slice none 0 0, .slice none 0 0, .int .i64 0, .int .i64 0, .int .i64 0, .bool false]) ∧
    Hid (Below w.heap.size w ((w.alloc (.cells cs 34)).alloc (.cells #[.slice none 0 0, .slice none 0 0, .int .i32 0, .slice none 0 0, .slice none 0 0, .slice none 0 0, .slice none 0 0, .slice none 0 0, .int .i64 0, .int .i64 0, .int .i64 0, .bool false] 36))) ∧ Hid (((w.alloc (.cells cs 34)).alloc (.cells #[.slice none 0 0, .slice none 0 0, .int .i32 0, .slice none 0 0, .slice none 0 0, .slice none 0 0, .slice none 0 0, .slice none 0 0, .int .i64 0, .int .i64 0, .int .i64 0, .bool false] 36)).heap.size = w.heap.size + 2) := by
  have h1 := Blk.new (w.alloc (.cells cs 34)) 36 #[.slice none 0 0, .slice none 0 0, .int .i32 0, .slice none 0 0, .slice none 0 0, .slice none 0 0, .slice none 0 0, .slice none 0 0, .int .i64 0, .int .i64 0, .int .i64 0, .bool false]
  rw [World.size_alloc] at h1
  exact ⟨Lib.hid ((Blk.new w _ cs).alloc _), Lib.hid h1, Lib.hid (below_alloc2 w _ _), Lib.hid (by simp)⟩
theorem m_end {fn : Func} {a : Act} {w W : World} {g lo hi k : Nat} {t : TypeId} {y0 y1 y2 y3 y4 y5 y6 y7 y8 y9 y10 y11 d r m c v o i : Value} {S : S8} {p : Int} {dn : Bool} (hf : fn.results = #[ResultVar.cell k 36]) (ha : a.tmps[k]? = some (.pointer (some ⟨g, 0, none⟩))) (hd : a.defers = []) (hk : Blk W g t #[y0, y1, y2, y3, y4, y5, y6, y7, y8, y9, y10, y11]) (hb : Below w.heap.size w W) (ho : OwnSt W lo hi d r m c v o i S) (hg : w.heap.size ≤ g) (hlo : w.heap.size ≤ lo) (hgl : g < lo ∨ hi ≤ g) (hhi : hi ≤ W.heap.size) :
    bodyPost Try.prog fn (NewMach w (S, p, dn)) Exit.ret a (putM W g d r (.int .i32 S.a) m c v o i (.int .i64 S.fault) (.int .i64 S.fuel) (.int .i64 p) (.bool dn)) := by
  have y1 := putM_blk hk d r (.int .i32 S.a) m c v o i (.int .i64 S.fault) (.int .i64 S.fuel) (.int .i64 p) (.bool dn)
  have y0 := putM_only W g d r (.int .i32 S.a) m c v o i (.int .i64 S.fault) (.int .i64 S.fuel) (.int .i64 p) (.bool dn)
  have y2 := hb.grown y0 hb.size (fun k hk => by injection hk with hk; omega)
  have y3 := ho.only y0 hgl
  have y4 := putM_size W g d r (.int .i32 S.a) m c v o i (.int .i64 S.fault) (.int .i64 S.fuel) (.int .i64 p) (.bool dn)
  clear y0
  generalize putM W g d r (.int .i32 S.a) m c v o i (.int .i64 S.fault) (.int .i64 S.fuel) (.int .i64 p) (.bool dn) = W' at y1 y2 y3 y4 ⊢
  obtain ⟨z0, z1, z2, z3, z4, z5, z6, z7, z8, z9, z10, z11⟩ := mach_cells y1
  exact bodyPost_ret (v := .agg #[d, r, .int .i32 S.a, m, c, v, o, i, .int .i64 S.fault, .int .i64 S.fuel, .int .i64 p, .bool dn]) (by simp [results, hf, ha, z0, z1, z2, z3, z4, z5, z6, z7, z8, z9, z10, z11, go_sem]) hd ⟨d, r, m, c, v, o, i, rfl, y3.mono hlo (by omega), y2⟩
end Go.Proofs.Ytmnfdbgiemappaa

namespace Go.Proofs.Ytmnfdbgiemappaa
open Go.RowKit Go

set_option maxRecDepth 100000 in
set_option maxHeartbeats 4000000 in
theorem eqmach_same (da ra ma ca va oa ia db rb mb cb vb ob ib : Value) (S : S8) (q : Int) (dn : Bool) (w : World) (ha : RdSt w da ra ma ca va oa ia S) (hb : RdSt w db rb mb cb vb ob ib S) :
    Calls Try.prog 10 #[.agg #[da, ra, .int .i32 S.a, ma, ca, va, oa, ia, .int .i64 S.fault, .int .i64 S.fuel, .int .i64 q, .bool dn], .agg #[db, rb, .int .i32 S.a, mb, cb, vb, ob, ib, .int .i64 S.fault, .int .i64 S.fuel, .int .i64 q, .bool dn]] w fun e w' => e = .returned (.bool true) ∧ Below w.heap.size w w' := by
  obtain ⟨⟨A0, a0, rfl⟩, ⟨A1, a1, rfl⟩, ⟨A2, a2, rfl⟩, ⟨A3, a3, rfl⟩, ⟨A4, a4, rfl⟩, ⟨A5, a5, rfl⟩, ⟨A6, a6, rfl⟩⟩ := ha.form
  obtain ⟨⟨E0, e0, rfl⟩, ⟨E1, e1, rfl⟩, ⟨E2, e2, rfl⟩, ⟨E3, e3, rfl⟩, ⟨E4, e4, rfl⟩, ⟨E5, e5, rfl⟩, ⟨E6, e6, rfl⟩⟩ := hb.form
  have B0 := Lib.hid (below_alloc2 w (.cells #[.slice A0 S.data.length a0, .slice A1 S.ret.length a1, .int .i32 S.a, .slice A2 S.mem.length a2, .slice A3 S.cells.length a3, .slice A4 S.vars.length a4, .slice A5 S.out.length a5, .slice A6 S.inp.length a6, .int .i64 S.fault, .int .i64 S.fuel, .int .i64 q, .bool dn] 36) (.cells #[.slice E0 S.data.length e0, .slice E1 S.ret.length e1, .int .i32 S.a, .slice E2 S.mem.length e2, .slice E3 S.cells.length e3, .slice E4 S.vars.length e4, .slice E5 S.out.length e5, .slice E6 S.inp.length e6, .int .i64 S.fault, .int .i64 S.fuel, .int .i64 q, .bool dn] 36))
  have K1 := Lib.hid ((Blk.new w 36 #[.slice A0 S.data.length a0, .slice A1 S.ret.length a1, .int .i32 S.a, .slice A2 S.mem.length a2, .slice A3 S.cells.length a3, .slice A4 S.vars.length a4, .slice A5 S.out.length a5, .slice A6 S.inp.length a6, .int .i64 S.fault, .int .i64 S.fuel, .int .i64 q, .bool dn]).alloc (.cells #[.slice E0 S.data.length e0, .slice E1 S.ret.length e1, .int .i32 S.a, .slice E2 S.mem.length e2, .slice E3 S.cells.length e3, .slice E4 S.vars.length e4, .slice E5 S.out.length e5, .slice E6 S.inp.length e6, .int .i64 S.fault, .int .i64 S.fuel, .int .i64 q, .bool dn] 36))
  have K2 : Hid (Blk ((w.alloc (.cells #[.slice A0 S.data.length a0, .slice A1 S.ret.length a1, .int .i32 S.a, .slice A2 S.mem.length a2, .slice A3 S.cells.length a3, .slice A4 S.vars.length a4, .slice A5 S.out.length a5, .slice A6 S.inp.length a6, .int .i64 S.fault, .int .i64 S.fuel, .int .i64 q, .bool dn] 36)).alloc (.cells #[.slice E0 S.data.length e0, .slice E1 S.ret.length e1, .int .i32 S.a, .slice E2 S.mem.length e2, .slice E3 S.cells.length e3, .slice E4 S.vars.length e4, .slice E5 S.out.length e5, .slice E6 S.inp.length e6, .int .i64 S.fault, .int .i64 S.fuel, .int .i64 q, .bool dn] 36)) (w.heap.size + 1) 36 #[.slice E0 S.data.length e0, .slice E1 S.ret.length e1, .int .i32 S.a, .slice E2 S.mem.length e2, .slice E3 S.cells.length e3, .slice E4 S.vars.length e4, .slice E5 S.out.length e5, .slice E6 S.inp.length e6, .int .i64 S.fault, .int .i64 S.fuel, .int .i64 q, .bool dn]) := Lib.hid (by have h := Blk.new (w.alloc (.cells #[.slice A0 S.data.length a0, .slice A1 S.ret.length a1, .int .i32 S.a, .slice A2 S.mem.length a2, .slice A3 S.cells.length a3, .slice A4 S.vars.length a4, .slice A5 S.out.length a5, .slice A6 S.inp.length a6, .int .i64 S.fault, .int .i64 S.fuel, .int .i64 q, .bool dn] 36)) 36 #[.slice E0 S.data.length e0, .slice E1 S.ret.length e1, .int .i32 S.a, .slice E2 S.mem.length e2, .slice E3 S.cells.length e3, .slice E4 S.vars.length e4, .slice E5 S.out.length e5, .slice E6 S.inp.length e6, .int .i64 S.fault, .int .i64 S.fuel, .int .i64 q, .bool dn]; rw [World.size_alloc] at h; exact h)
  have HE := Lib.hid (fun W (h : Below w.heap.size w W) => eqst_same _ _ _ _ _ _ _ _ _ _ _ _ _ _ S W (ha.below h) (hb.below h))
  generalize hX : ((w.alloc (.cells #[.slice A0 S.data.length a0, .slice A1 S.ret.length a1, .int .i32 S.a, .slice A2 S.mem.length a2, .slice A3 S.cells.length a3, .slice A4 S.vars.length a4, .slice A5 S.out.length a5, .slice A6 S.inp.length a6, .int .i64 S.fault, .int .i64 S.fuel, .int .i64 q, .bool dn] 36)).alloc (.cells #[.slice E0 S.data.length e0, .slice E1 S.ret.length e1, .int .i32 S.a, .slice E2 S.mem.length e2, .slice E3 S.cells.length e3, .slice E4 S.vars.length e4, .slice E5 S.out.length e5, .slice E6 S.inp.length e6, .int .i64 S.fault, .int .i64 S.fuel, .int .i64 q, .bool dn] 36)) = X at B0 K1 K2
  have HX := Lib.hid hX
  obtain ⟨p0, p1, p2, p3, p4, p5, p6, p7, p8, p9, p10, p11⟩ := mach_cells K1.out
  obtain ⟨r0, r1, r2, r3, r4, r5, r6, r7, r8, r9, r10, r11⟩ := mach_cells K2.out
  have l1 : w.heap.size < X.heap.size := K1.out.lt
  have l2 : w.heap.size + 1 < X.heap.size := K2.out.lt
  have hq : (q != q) = false := by simp
  have hd : (dn != dn) = false := by cases dn <;> rfl
  clear ha hb hX
  go_enter Try.func10, Try.ntmps10
  go_upto_region 1 with (fail)
  rw [HX.out]
  go_wp2_with fail
  refine (HE.out _ B0.out).mono ?_
  rintro e w1 ⟨rfl, hb1⟩
  have k1 := K1.out.below hb1 K1.out.lt
  have k2 := K2.out.below hb1 K2.out.lt
  have HB1 := Lib.hid (B0.out.trans (hb1.mono B0.out.size))
  clear p0 p1 p2 p3 p4 p5 p6 p7 p8 p9 p10 p11 r0 r1 r2 r3 r4 r5 r6 r7 r8 r9 r10 r11 l1 l2
  obtain ⟨p0, p1, p2, p3, p4, p5, p6, p7, p8, p9, p10, p11⟩ := mach_cells k1
  obtain ⟨r0, r1, r2, r3, r4, r5, r6, r7, r8, r9, r10, r11⟩ := mach_cells k2
  have l1 : w.heap.size < w1.heap.size := k1.lt
  have l2 : w.heap.size + 1 < w1.heap.size := k2.lt
  clear k1 k2 hb1 K1 K2 HE B0
  go_wp2_with fail
  go_ret
  exact ⟨rfl, HB1.out⟩
set_option maxRecDepth 100000 in
set_option maxHeartbeats 4000000 in
theorem markmach_any (lo hi : Nat) (d r m c v o i : Value) (S : S8) (q : Int) (dn : Bool) (k : Nat) (h1 : k + totSt S ≤ 4100000) (hs : totSt S ≤ 4000000) (w : World) (ho : OwnSt w lo hi d r m c v o i S) (hw : hi ≤ w.heap.size) :
    Calls Try.prog 15 #[.agg #[d, r, .int .i32 S.a, m, c, v, o, i, .int .i64 S.fault, .int .i64 S.fuel, .int .i64 q, .bool dn], .int .i64 k] w fun e w' => e = .returned (.int .i64 ((k : Int) + (totSt S : Int))) ∧ OwnSt w' lo hi d r m c v o i (markSt S k) ∧ Kept lo hi w w' := by
  obtain ⟨⟨A0, a0, rfl⟩, ⟨A1, a1, rfl⟩, ⟨A2, a2, rfl⟩, ⟨A3, a3, rfl⟩, ⟨A4, a4, rfl⟩, ⟨A5, a5, rfl⟩, ⟨A6, a6, rfl⟩⟩ := ho.form hs
  have K1 := Lib.hid (Blk.new w 36 #[.slice A0 S.data.length a0, .slice A1 S.ret.length a1, .int .i32 S.a, .slice A2 S.mem.length a2, .slice A3 S.cells.length a3, .slice A4 S.vars.length a4, .slice A5 S.out.length a5, .slice A6 S.inp.length a6, .int .i64 S.fault, .int .i64 S.fuel, .int .i64 q, .bool dn])
  have KE := Lib.hid (Kept.of_below (lo := lo) (hi := hi) (below_alloc w (.cells #[.slice A0 S.data.length a0, .slice A1 S.ret.length a1, .int .i32 S.a, .slice A2 S.mem.length a2, .slice A3 S.cells.length a3, .slice A4 S.vars.length a4, .slice A5 S.out.length a5, .slice A6 S.inp.length a6, .int .i64 S.fault, .int .i64 S.fuel, .int .i64 q, .bool dn] 36)))
  have HM := Lib.hid (markst_any lo hi _ _ _ _ _ _ _ S k h1 hs (w.alloc (.cells #[.slice A0 S.data.length a0, .slice A1 S.ret.length a1, .int .i32 S.a, .slice A2 S.mem.length a2, .slice A3 S.cells.length a3, .slice A4 S.vars.length a4, .slice A5 S.out.length a5, .slice A6 S.inp.length a6, .int .i64 S.fault, .int .i64 S.fuel, .int .i64 q, .bool dn] 36)) (ho.alloc (.cells #[.slice A0 S.data.length a0, .slice A1 S.ret.length a1, .int .i32 S.a, .slice A2 S.mem.length a2, .slice A3 S.cells.length a3, .slice A4 S.vars.length a4, .slice A5 S.out.length a5, .slice A6 S.inp.length a6, .int .i64 S.fault, .int .i64 S.fuel, .int .i64 q, .bool dn] 36)) (by simp; omega))
  obtain ⟨p0, p1, p2, p3, p4, p5, p6, p7, p8, p9, p10, p11⟩ := mach_cells K1.out
  have l1 : w.heap.size < (w.alloc (.cells #[.slice A0 S.data.length a0, .slice A1 S.ret.length a1, .int .i32 S.a, .slice A2 S.mem.length a2, .slice A3 S.cells.length a3, .slice A4 S.vars.length a4, .slice A5 S.out.length a5, .slice A6 S.inp.length a6, .int .i64 S.fault, .int .i64 S.fuel, .int .i64 q, .bool dn] 36)).heap.size := K1.out.lt
  obtain ⟨Q, hQ⟩ : ∃ Q : Int, (k : Int) + (totSt S : Int) = Q := ⟨_, rfl⟩
  rw [hQ] at HM ⊢
  clear ho hs h1 hw hQ
  go_enter Try.func15, Try.ntmps15
  go_wp2_with fail
  refine HM.out.mono ?_
  rintro e w1 ⟨rfl, ho1, hk1⟩
  have HO1 := Lib.hid ho1
  have HK1 := Lib.hid (KE.out.trans hk1)
  clear ho1 hk1 HM KE K1 p0 p1 p2 p3 p4 p5 p6 p7 p8 p9 p10 p11 l1
  go_wp2_with fail
  go_ret
  exact ⟨rfl, HO1.out, HK1.out⟩
set_option maxRecDepth 100000 in
set_option maxHeartbeats 4000000 in
theorem heldmach_any (d r m c v o i : Value) (S : S8) (q : Int) (dn : Bool) (k : Nat) (h1 : k + totSt S ≤ 4100000) (hs : totSt S ≤ 4000000) (w : World) (hr : RdSt w d r m c v o i (markSt S k)) :
    Calls Try.prog 16 #[.agg #[d, r, .int .i32 S.a, m, c, v, o, i, .int .i64 S.fault, .int .i64 S.fuel, .int .i64 q, .bool dn], .int .i64 k] w fun e w' => e = .returned (.int .i64 ((k : Int) + (totSt S : Int))) ∧ Below w.heap.size w w' := by
  have hform := hr.form
  rw [show (markSt S k).data.length = S.data.length from marksI_len _ _, show (markSt S k).ret.length = S.ret.length from marksS_len _ _, show (markSt S k).mem.length = S.mem.length from marksI_len _ _, show (markSt S k).cells.length = S.cells.length from marksN_len _ _, show (markSt S k).vars.length = S.vars.length from marksL_len _ _, show (markSt S k).out.length = S.out.length from marksB_len _ _, show (markSt S k).inp.length = S.inp.length from marksB_len _ _] at hform
  obtain ⟨⟨A0, a0, rfl⟩, ⟨A1, a1, rfl⟩, ⟨A2, a2, rfl⟩, ⟨A3, a3, rfl⟩, ⟨A4, a4, rfl⟩, ⟨A5, a5, rfl⟩, ⟨A6, a6, rfl⟩⟩ := hform
  have K1 := Lib.hid (Blk.new w 36 #[.slice A0 S.data.length a0, .slice A1 S.ret.length a1, .int .i32 S.a, .slice A2 S.mem.length a2, .slice A3 S.cells.length a3, .slice A4 S.vars.length a4, .slice A5 S.out.length a5, .slice A6 S.inp.length a6, .int .i64 S.fault, .int .i64 S.fuel, .int .i64 q, .bool dn])
  have B0 := Lib.hid (below_alloc w (.cells #[.slice A0 S.data.length a0, .slice A1 S.ret.length a1, .int .i32 S.a, .slice A2 S.mem.length a2, .slice A3 S.cells.length a3, .slice A4 S.vars.length a4, .slice A5 S.out.length a5, .slice A6 S.inp.length a6, .int .i64 S.fault, .int .i64 S.fuel, .int .i64 q, .bool dn] 36))
  have HM := Lib.hid (heldst_any _ _ _ _ _ _ _ S k h1 hs (w.alloc (.cells #[.slice A0 S.data.length a0, .slice A1 S.ret.length a1, .int .i32 S.a, .slice A2 S.mem.length a2, .slice A3 S.cells.length a3, .slice A4 S.vars.length a4, .slice A5 S.out.length a5, .slice A6 S.inp.length a6, .int .i64 S.fault, .int .i64 S.fuel, .int .i64 q, .bool dn] 36)) (hr.below (below_alloc w _)))
  obtain ⟨p0, p1, p2, p3, p4, p5, p6, p7, p8, p9, p10, p11⟩ := mach_cells K1.out
  have l1 : w.heap.size < (w.alloc (.cells #[.slice A0 S.data.length a0, .slice A1 S.ret.length a1, .int .i32 S.a, .slice A2 S.mem.length a2, .slice A3 S.cells.length a3, .slice A4 S.vars.length a4, .slice A5 S.out.length a5, .slice A6 S.inp.length a6, .int .i64 S.fault, .int .i64 S.fuel, .int .i64 q, .bool dn] 36)).heap.size := K1.out.lt
  have hq0 : ¬ ((k : Int) + (totSt S : Int)) < 0 := by omega
  obtain ⟨Q, hQ⟩ : ∃ Q : Int, (k : Int) + (totSt S : Int) = Q := ⟨_, rfl⟩
  rw [hQ] at HM hq0 ⊢
  clear hr hs h1 hQ
  go_enter Try.func16, Try.ntmps16
  go_wp2_with fail
  refine HM.out.mono ?_
  rintro e w1 ⟨rfl, hb1⟩
  have HB1 := Lib.hid (B0.out.trans (hb1.mono B0.out.size))
  clear hb1 HM B0 K1 p0 p1 p2 p3 p4 p5 p6 p7 p8 p9 p10 p11 l1
  go_wp2_with fail
  go_ret
  exact ⟨rfl, HB1.out⟩
end Go.Proofs.Ytmnfdbgiemappaa

namespace Go.Proofs.Ytmnfdbgiemappaa
open Go.RowKit Go

/-- The names of the built-in words. -/
def primNames : List ByteArray := [⟨#[100, 117, 112]⟩, ⟨#[100, 114, 111, 112]⟩, ⟨#[111, 118, 101, 114]⟩, ⟨#[110, 105, 112]⟩, ⟨#[115, 119, 97, 112]⟩, ⟨#[43]⟩, ⟨#[45]⟩, ⟨#[42]⟩, ⟨#[97, 110, 100]⟩, ⟨#[111, 114]⟩, ⟨#[50, 42]⟩, ⟨#[50, 47]⟩, ⟨#[47, 109, 111, 100]⟩, ⟨#[64]⟩, ⟨#[33]⟩, ⟨#[97]⟩, ⟨#[97, 33]⟩, ⟨#[101, 109, 105, 116]⟩, ⟨#[107, 101, 121]⟩, ⟨#[112, 117, 115, 104]⟩, ⟨#[112, 111, 112]⟩, ⟨#[105]⟩, ⟨#[46]⟩, ⟨#[110, 111, 112]⟩]
end Go.Proofs.Ytmnfdbgiemappaa

namespace Go.Proofs.Ytmnfdbgiemappaa
open Go.RowKit

def inB (x a b : Int) : Bool := decide (a ≤ x ∧ x ≤ b)
theorem inB_true {x a b : Int} (h0 : a ≤ x) (h1 : x ≤ b) : inB x a b = true := by unfold inB; simp [h0, h1]
theorem inB_false {x a b : Int} (h : ¬ (a ≤ x ∧ x ≤ b)) : inB x a b = false := by unfold inB; simpa using h
theorem inB_iff {x a b : Int} : inB x a b = true ↔ a ≤ x ∧ x ≤ b := by unfold inB; simp

theorem in_any (x a b : Int) (w : World) :
    Calls Try.prog 23 #[.int .i64 x, .int .i64 a, .int .i64 b] w fun e w' => e = .returned (.bool (inB x a b)) ∧ w = w' := by
  by_cases h0 : a ≤ x
  · by_cases h1 : x ≤ b
    · rw [inB_true h0 h1]
      go_enter Try.func23, Try.ntmps23
      go_wp2
      go_ret
      exact ⟨rfl, rfl⟩
    · rw [inB_false (by omega)]
      have h1' : decide (x ≤ b) = false := by simpa using h1
      go_enter Try.func23, Try.ntmps23
      go_wp2
      go_ret
      exact ⟨rfl, rfl⟩
  · rw [inB_false (by omega)]
    have h0' : decide (a ≤ x) = false := by simpa using h0
    go_enter Try.func23, Try.ntmps23
    go_wp2
    go_ret
    exact ⟨rfl, rfl⟩
end Go.Proofs.Ytmnfdbgiemappaa

namespace Go.Proofs.Ytmnfdbgiemappaa
open Go.RowKit Go

theorem below_alloc1 (w : World) (o : Obj) : Below w.heap.size w (w.alloc o) := (Below.refl _ _).alloc (Nat.le_refl _) _
/-- The name of a word; the empty text where there is none. -/
def primN (k : Int) : ByteArray := if 0 ≤ k ∧ k ≤ 23 then primNames.getD k.toNat ⟨#[]⟩ else ⟨#[]⟩
def primStrs : Array Value := (primNames.map Value.string).toArray
theorem names_any (w : World) : Calls Try.prog 64 #[] w fun e w' => e = .returned (.slice (some ⟨w.heap.size, 0, none⟩) 24 24) ∧ Blk w' w.heap.size 9 primStrs ∧ Below w.heap.size w w' := by
  go_enter Try.func64, Try.ntmps64
  go_wp2
  go_ret
  exact ⟨rfl, Blk.new w 9 _, below_alloc1 w _⟩
theorem strs_cell {w : World} {g k : Nat} (h : Blk w g 9 primStrs) (hk : k < 24) : w.cell? ⟨g, k, none⟩ = some (.string (primNames.getD k ⟨#[]⟩)) := by
  rw [h.cell]
  match k, hk with
  | 0, _ => rfl
  | 1, _ => rfl
  | 2, _ => rfl
  | 3, _ => rfl
  | 4, _ => rfl
  | 5, _ => rfl
  | 6, _ => rfl
  | 7, _ => rfl
  | 8, _ => rfl
  | 9, _ => rfl
  | 10, _ => rfl
  | 11, _ => rfl
  | 12, _ => rfl
  | 13, _ => rfl
  | 14, _ => rfl
  | 15, _ => rfl
  | 16, _ => rfl
  | 17, _ => rfl
  | 18, _ => rfl
  | 19, _ => rfl
  | 20, _ => rfl
  | 21, _ => rfl
  | 22, _ => rfl
  | 23, _ => rfl
  | k + 24, h => omega
theorem spec_primname (k : Int) (h0 : -9223372036854775808 ≤ k) (h1 : k ≤ 9223372036854775807) (w : World) : Calls Try.prog 49 #[.int .i64 k] w fun e w' => e = .returned (.string (primN k)) ∧ Below w.heap.size w w' := by
  by_cases h : 0 ≤ k ∧ k ≤ 23
  · have HIN := Lib.hid (fun W => in_any k 0 23 W)
    rw [inB_true h.1 h.2] at HIN
    obtain ⟨n, rfl⟩ : ∃ n : Nat, k = n := ⟨k.toNat, by omega⟩
    have hn : n < 24 := by omega
    obtain ⟨nm, hnm⟩ : ∃ nm, primNames.getD n ⟨#[]⟩ = nm := ⟨_, rfl⟩
    have HE : Hid (primN (n : Int) = nm) := Lib.hid (by unfold primN; rw [if_pos h]; exact hnm)
    have HNM := Lib.hid hnm
    have g1 : (0 : Int) ≤ (n : Int) := by omega
    have g2 : (n : Int) < 24 := by omega
    clear h h0 h1 hnm
    rw [HE.out]
    go_enter Try.func49, Try.ntmps49
    go_wp2_with fail
    refine (names_any _).mono ?_
    rintro e w1 ⟨rfl, hb, hbl⟩
    have c0 := strs_cell hb hn
    rw [HNM.out] at c0
    have HB := Lib.hid hbl
    clear hb hbl
    go_wp2_with fail
    refine (HIN.out _).mono ?_
    rintro e w' ⟨rfl, rfl⟩
    go_wp2_with fail
    go_ret
    exact ⟨rfl, HB.out⟩
  · have HIN := Lib.hid (fun W => in_any k 0 23 W)
    rw [inB_false h] at HIN
    have HE : Hid (primN k = ⟨#[]⟩) := Lib.hid (by unfold primN; rw [if_neg h])
    clear h
    rw [HE.out]
    go_enter Try.func49, Try.ntmps49
    go_wp2_with fail
    refine (names_any _).mono ?_
    rintro e w1 ⟨rfl, hb, hbl⟩
    have HB := Lib.hid hbl
    clear hb hbl
    go_wp2_with fail
    refine (HIN.out _).mono ?_
    rintro e w' ⟨rfl, rfl⟩
    go_wp2_with fail
    go_ret
    exact ⟨rfl, HB.out⟩
theorem isbuiltin_any (k : Int) (w : World) : Calls Try.prog 74 #[.int .i64 k] w fun e w' => e = .returned (.bool (inB k 0 23)) ∧ w = w' := by
  by_cases h0 : 0 ≤ k
  · have h0' : decide (0 ≤ k) = true := by simpa using h0
    by_cases h1 : k ≤ 23
    · rw [inB_true h0 h1]
      have h2 : k < 24 := by omega
      go_enter Try.func74, Try.ntmps74
      go_wp2
      go_ret
      exact ⟨rfl, rfl⟩
    · rw [inB_false (by omega)]
      have h2 : ¬ k < 24 := by omega
      have h2' : decide (k < 24) = false := by simp; omega
      go_enter Try.func74, Try.ntmps74
      go_wp2
      go_ret
      exact ⟨rfl, rfl⟩
  · rw [inB_false (by omega)]
    have h0' : decide (0 ≤ k) = false := by simpa using h0
    go_enter Try.func74, Try.ntmps74
    go_wp2
    go_ret
    exact ⟨rfl, rfl⟩
end Go.Proofs.Ytmnfdbgiemappaa
