/-
  Bytes written: how a word ends.
  (*bench).putSlot: a slot put on Ret.
  The word push on a bench.
  The word @ on a bench.
-/
import Derived.Test.YtdiaiflleiebfaaGreatDoorDO20
import Derived.RegionTactic
import Derived.ChangeAlike
import Derived.Deep.RegionLaw
namespace Go.Proofs.YtdiaiflleiebfaaGreatDoor
open Go.RowKit Go

/-- Bytes said when t numbers have been taken. -/
def say8' (S : S8) (t : Nat) (b : List Nat) : Int ⊕ S8 := if 400 < S.out.length + b.length then .inl 13 else .inr { drop8 S t with out := S.out ++ b }
theorem say8_one (S : S8) (b : List Nat) : say8' S 1 b = say8 S b := rfl
theorem wrote_end {w w1 w' : World} {g lo hi n cap t : Nat} {A : Option Addr} {d r m c v o i : Value} {S : S8} {l : List Nat} {e : Ending} (h : Taken w w1 g lo hi A n cap d r m c v o i S) (hn : S.data.length - t = n)
    (T : ToldO lo g w1 o S.out.length (S.out ++ l) (.slice A n cap) r (.int .i32 S.a) m c v i (.int .i64 S.fault) (.int .i64 S.fuel) e w') : BenchEnd w g lo hi d r m c v o i S (say8' S t l) e w' := by
  obtain ⟨v', rfl, hB, hO, hA⟩ := T
  have ho := h.own
  have hlen : (S.out ++ l).length = S.out.length + l.length := List.length_append
  have hrow : ∀ k, o.ownBlock = some k → lo ≤ k ∧ k < hi := fun k hk => ⟨own_lt ho.o k hk, ho.top _ (by simp) k hk⟩
  have hbo := box_out ho h.box (by decide) (by decide) (by decide) (by decide) (by decide)
  have hch : Chg w1 w' (fun k => k = g ∨ o.ownBlock = some k) := by
    rcases hA with ⟨q, cp, rfl, -, -, h2⟩ | ⟨h2, -⟩
    · refine h2.weaken fun k _ h3 => ?_
      rcases h3 with h3 | rfl
      · exact .inl h3
      · exact .inr rfl
    · exact h2.weaken fun k _ h3 => .inl h3
  have hchg : Chg w w' (fun k => k = g ∨ (lo ≤ k ∧ k < hi)) := by
    refine (h.chg.weaken fun k _ h2 => .inl h2).trans (hch.weaken fun k _ h2 => ?_)
    rcases h2 with h2 | h2
    · exact .inl h2
    · exact .inr (hrow k h2)
  have hne : ∀ x ∈ [d, r, m, c, v, i], ∀ k, x.ownBlock = some k → ¬ (k = g ∨ o.ownBlock = some k) := by
    intro x hx k hk2 hh
    have hx7 : x ∈ [d, r, m, c, v, o, i] := by
      simp only [List.mem_cons, List.not_mem_nil, or_false] at hx ⊢
      rcases hx with rfl | rfl | rfl | rfl | rfl | rfl <;> simp
    rcases hh with hh | hh
    · exact hbo x hx7 k hk2 hh
    · simp only [List.mem_cons, List.not_mem_nil, or_false] at hx
      have key : ∀ {e2 : TypeId} {s2 n2 : Nat} {xs : List Value}, w1.ownsRow lo e2 s2 x n2 xs → e2 ≠ 5 → False := fun h1 h2 => by
        rcases rows_ne h1 ho.o h2 with h3 | h3
        · rw [h3] at hk2; cases hk2
        · exact h3 (by rw [hk2, hh])
      rcases hx with rfl | rfl | rfl | rfl | rfl | rfl
      · exact key ho.d (by decide)
      · exact key ho.r (by decide)
      · exact key ho.m (by decide)
      · exact key ho.c (by decide)
      · exact key ho.v (by decide)
      · rcases apart_sym ho.oi with h3 | h3
        · rw [h3] at hk2; cases hk2
        · exact h3 (by rw [hk2, hh])
  unfold say8'
  by_cases h16 : 400 < S.out.length + l.length
  · rw [if_pos h16]
    refine ⟨hchg, by rw [hlen, if_pos h16], by decide, ?_⟩
    rcases hA with ⟨q, cp, rfl, rfl, -, h2⟩ | ⟨h2, -⟩
    · have horow : w'.ownsRow lo 5 1 (.slice (some ⟨q, 0, none⟩) S.out.length cp) S.out.length (S.out.map b8v) := by
        have h3 := own_prefix (n := S.out.length) hO (by rw [hlen]; omega)
        rw [← List.map_take, List.take_left] at h3
        exact h3
      exact ⟨ho.top, ho.dm, ho.oi, hch.own ho.d (hne d (by simp)), hch.own ho.r (hne r (by simp)), hch.own ho.m (hne m (by simp)), hch.own ho.c (hne c (by simp)), hch.own ho.v (hne v (by simp)), horow, hch.ownT ho.i (hne i (by simp))⟩
    · exact h2.ownst ho hbo
  · rw [if_neg h16]
    have hd := ho.d
    rw [h.dform] at hd
    have hp := own_prefix hd h.le
    rw [← List.map_take] at hp
    have hl : (S.data.take n).length = n := by have := h.le; simp; omega
    have hdb : d.ownBlock = (Value.slice A n cap).ownBlock := by rw [h.dform]; exact own_block
    have hned : ∀ k, (Value.slice A n cap).ownBlock = some k → ¬ (k = g ∨ o.ownBlock = some k) := fun k hk => hne d (by simp) k (by rw [hdb]; exact hk)
    have ed : drop8 S t = { S with data := S.data.take n } := by unfold drop8; rw [hn]
    rw [ed]
    refine ⟨hchg, by rw [hlen, if_neg h16], .slice A n cap, r, m, c, v, v', i, hB, ?_⟩
    have hdm := ho.dm
    rw [hdb] at hdm
    refine OwnSt.of7T (S := { S with data := S.data.take n, out := S.out ++ l }) ?_ (hch.own ho.r (hne r (by simp))) (hch.own ho.m (hne m (by simp))) (hch.own ho.c (hne c (by simp))) (hch.own ho.v (hne v (by simp))) hO (hch.ownT ho.i (hne i (by simp))) hdm ?_
    · show World.ownsRow _ lo _ 1 _ (S.data.take n).length _
      rw [hl]
      exact hch.own hp hned
    · cases hq : v'.ownBlock with
      | none => exact .inl rfl
      | some k =>
        refine .inr fun e => ?_
        rcases hA with ⟨q, cp, rfl, rfl, -, -⟩ | ⟨-, h2⟩
        · have hkq : q = k := by simpa [Value.ownBlock] using hq
          subst hkq
          exact hne i (by simp) q e.symm (.inr rfl)
        · have h1 := h2 k hq
          have h3 := ho.top i (by simp) k e.symm
          have h4 := h.hhi
          have h5 := h.chg.size
          omega
theorem rdM_new (w : World) (t : TypeId) (ys : List Nat) (hl : ys.length ≤ 1000) : RdM (w.alloc (.cells (ys.map b8v).toArray t)) (.slice (some ⟨w.heap.size, 0, none⟩) ys.length ys.length) ys := by
  refine ⟨_, _, rfl, by omega, fun i hi => ⟨⟨w.heap.size, 0, none⟩, rfl, by simp, ?_⟩⟩
  rw [addr_lit, Nat.zero_add, cell_of_row _ w.heap.size i (ys.map b8v).toArray t (0, 0) (heap_alloc_new w _)]
  simp [hi]
/-- Bytes are written, and the word is done. -/
theorem write_end {w w1 : World} {g lo hi n cap t : Nat} {A : Option Addr} {d r m c v o i : Value} {S : S8} {l : List Nat} (h : Taken w w1 g lo hi A n cap d r m c v o i S) (hn : S.data.length - t = n) (hol : S.out.length ≤ 400) (hl : l.length ≤ 40) :
    Calls Tryz.prog 165 #[.pointer (some ⟨g, 0, none⟩), .slice (some ⟨w1.heap.size, 0, none⟩) l.length l.length] (w1.alloc (.cells (l.map b8v).toArray 5)) (BenchEnd w g lo hi d r m c v o i S (say8' S t l)) := by
  have ha := below_alloc w1 (.cells (l.map b8v).toArray 5)
  have T1 := h.far ha
  obtain ⟨O, oc, rfl⟩ := own_form T1.own.o
  have hT := write_any lo g O S.out.length oc S.out _ l (.slice A n cap) r (.int .i32 S.a) m c v i (.int .i64 S.fault) (.int .i64 S.fuel) _ rfl hol hl (by have h1 := h.hhi; have h2 := h.hlo; have h3 := h.chg.size; simp; omega) T1.box T1.own.o (rdM_new w1 5 l (by omega))
  exact hT.mono fun e w' hh => wrote_end T1 hn hh
end Go.Proofs.YtdiaiflleiebfaaGreatDoor

namespace Go.Proofs.YtdiaiflleiebfaaGreatDoor
open Go.RowKit Go

theorem step_append_src {P : Program} {ops : Array Oper} {o : Oper} {a : Act} {w : World} {K : Act → World → Prop} {Q : Exit → Act → World → Prop} {E : Prop} (hgd : o.guard = none) (s x : Operand) (t : TypeId)
    (ho : o.op = .call { callee := .builtin .append, args := #[s, x], argTypes := #[t, t] })
    (base : Nat) (e : TypeId) (i : TypeInfo) (z : Value) (size bytes : Nat) (ht : P.underlying t = some (.slice e)) (hi : P.info? e = some i) (hz : i.zero = some z)
    (hsize : i.size = size) (hby : i.bytes = bytes) (hzs : z.cells.size = size) (hsz : 0 < size)
    (v : Value) (n : Nat) (xs : List Value) (hs : a.eval s = v) (hown : w.ownsRow base e size v n xs)
    (u : Value) (m : Nat) (ys : List Value) (hx : a.eval x = u) (hsrc : SrcAt w size u m ys) (h1 : ∀ x ∈ ys, x.oneCell' = true)
    (h63 : n + m ≤ maxLen) (hbytes : (n + m) * bytes ≤ 140737488355328) (hbase : base ≤ w.heap.size)
    (h : ∀ v' w', w'.ownsRow base e size v' (n + m) (xs ++ ys) → Hid (AppAlt w w' v v' n m) → K (a.put o.dst v') w') :
    if Region.wanted o (yielded ops a.tmps) = true then Oper.wp P o a w K Q else E := by
  have hw : Region.wanted o (yielded ops a.tmps) = true := by simp [Region.wanted, hgd]
  rw [if_pos hw]
  obtain ⟨v', w', hrun, h2, h3⟩ := run_append_alt (P := P) base t o.type e i z size bytes ht hi hz hsize hby hzs hsz v n xs hown u m ys hsrc h1 h63 hbytes hbase
  unfold Oper.wp
  simp [execOp, ho, resolve, invoke, builtin, hs, hx, hrun, Result.andThen]
  exact h v' w' h2 (Lib.hid h3)
/-- A slot has been put: the bench's box, the row. -/
def ToldR (lo g : Nat) (w : World) (v : Value) (n : Nat) (X : List (Int × Int)) (x0 x2 x3 x4 x5 x6 x7 x8 x9 : Value) (e : Ending) (w' : World) : Prop :=
  ∃ v', e = .returned (.int .i64 (if 24 < X.length then 3 else 0)) ∧ Blk w' g 152 #[x0, v', x2, x3, x4, x5, x6, x7, x8, x9] ∧ w'.ownsRow lo 69 2 v' X.length (slv X) ∧ PutAlt w w' g v v' n X.length
set_option maxRecDepth 100000 in
set_option maxHeartbeats 1500000 in
theorem putSlot_any (lo g : Nat) (A : Option Addr) (n cap : Nat) (xs : List (Int × Int)) (s z : Int) (x0 x2 x3 x4 x5 x6 x7 x8 x9 : Value) (w : World) (hn : xs.length = n) (hx : n ≤ 24) (hlo : lo ≤ w.heap.size)
    (hB : Blk w g 152 #[x0, .slice A n cap, x2, x3, x4, x5, x6, x7, x8, x9]) (hO : w.ownsRow lo 69 2 (.slice A n cap) n (slv xs)) :
    Calls Tryz.prog 166 #[.pointer (some ⟨g, 0, none⟩), .agg #[.int .i64 s, .int .i32 z]] w (ToldR lo g w (.slice A n cap) n (xs ++ [(s, z)]) x0 x2 x3 x4 x5 x6 x7 x8 x9) := by
  obtain ⟨i0, hi0, hz0, hz1, hz2⟩ := info_parts infoS
  have OD := Lib.hid hO
  have KB := Lib.hid hB
  have hg : g < w.heap.size := hB.lt
  obtain ⟨W, hW⟩ : ∃ W, W = ((w.alloc (.cells #[.int .i64 s, .int .i32 z] 69)).alloc (.cells #[.int .i64 s, .int .i32 z] 69)).drew := ⟨_, rfl⟩
  have HWB : Hid (Below w.heap.size w W) := Lib.hid (by rw [hW]; exact (below_alloc2 w _ _).drew)
  have SRC : Hid (SrcAt W 2 (.slice (some ⟨w.heap.size + 1, 0, none⟩) 1 1) 1 (slv [(s, z)])) := Lib.hid (by
    rw [hW]
    have hb := heap_alloc_new (w.alloc (.cells #[.int .i64 s, .int .i32 z] 69)) (.cells #[.int .i64 s, .int .i32 z] 69)
    rw [World.size_alloc] at hb
    refine ⟨_, _, rfl, rfl, (by simp), ?_⟩
    intro a ha j x hj
    injection ha with ha
    subst ha
    rw [addr_lit, Nat.zero_add]
    show World.cell? ((w.alloc (.cells #[.int .i64 s, .int .i32 z] 69)).alloc (.cells #[.int .i64 s, .int .i32 z] 69)) _ = _
    rw [cell_of_row _ _ j _ _ _ hb]
    simpa [slv] using hj)
  have OD2 : Hid (W.ownsRow lo 69 2 (.slice A n cap) n (slv xs)) := Lib.hid (own_same hO fun k hk => HWB.out.block k (World.ownsRow.lt hO k hk).2)
  have KBW : Hid (Blk W g 152 #[x0, .slice A n cap, x2, x3, x4, x5, x6, x7, x8, x9]) := Lib.hid (hB.below HWB.out hB.lt)
  have hsW : lo ≤ W.heap.size := Nat.le_trans hlo HWB.out.size
  have HSW := Lib.hid hsW
  have hne : some g ≠ (Value.slice A n cap).ownBlock := box_neG KB.out OD.out (by decide)
  have HNE := Lib.hid hne
  have HW := Lib.hid hW
  obtain ⟨p0, p1, p2, p3, p4, p5, p6, p7, p8, p9⟩ := st_cells hB
  have f0 := hB.frozen
  have f1 := f0 1
  have HN := Lib.hid hn
  have HX := Lib.hid hx
  have e1 : n + 1 ≤ maxLen := by unfold maxLen; omega
  have e2 : (n + 1) * 16 ≤ 140737488355328 := by omega
  clear hO hB hn hsW hne hW hx hlo f0
  go_enter Tryz.func166, Tryz.ntmps166
  go_wp2_with fail
  go_region_law (rw [← HW.out]; refine step_append_src rfl _ _ 25 rfl lo 69 i0 (.agg #[.int .i64 0, .int .i32 0]) 2 16 Tryz.underlying25 hi0 hz0 hz1 hz2 rfl (by decide) (.slice A n cap) n (slv xs) rfl OD2.out (.slice (some ⟨w.heap.size + 1, 0, none⟩) 1 1) 1 (slv [(s, z)]) rfl SRC.out slv_one e1 e2 HSW.out ?_; intro v' w2 hown halt; obtain ⟨D, dc, hv⟩ := own_formG hown; subst hv; have HO2 := Lib.hid hown; have KB2 := Lib.hid (KBW.out.grown halt.out.grown HNE.out); clear hown; clear p0 p1 p2 p3 p4 p5 p6 p7 p8 p9 f1; have hg2 := KB2.out.lt; obtain ⟨p0, p1, p2, p3, p4, p5, p6, p7, p8, p9⟩ := st_cells KB2.out; have f1 := KB2.out.frozen 1)
  all_goals
    have hgr := halt.out.grown
    have hlen : (xs ++ [(s, z)]).length = n + 1 := by rw [List.length_append, HN.out]; rfl
    have hown2 : w2.ownsRow lo 69 2 (.slice D (n + 1) dc) (n + 1) (slv (xs ++ [(s, z)])) := by rw [slv_app]; exact HO2.out
    have HT : Hid (∀ e, e = .returned (.int .i64 (if 24 < n + 1 then 3 else 0)) → ToldR lo g w (.slice A n cap) n (xs ++ [(s, z)]) x0 x2 x3 x4 x5 x6 x7 x8 x9 e (w2.setCell ⟨g, 1, none⟩ (.slice D (n + 1) dc))) := Lib.hid (by
      rintro e rfl
      have hned : (Value.slice D (n + 1) dc).ownBlock = none ∨ (Value.slice D (n + 1) dc).ownBlock ≠ some g := .inr fun e => box_neG KB2.out hown2 (by decide) e.symm
      refine ⟨.slice D (n + 1) dc, by rw [hlen], by have := KB2.out.put 1 (.slice D (n + 1) dc); simpa using this, ?_, ?_⟩
      · rw [hlen]
        exact hown2.kept (row := some g) (only_setCell (World.grownBy.refl _ _) (.inl rfl) _) hned
      · rw [hlen]
        rcases halt.out with ⟨q, cp, e1, h1, e2, h2⟩ | ⟨h1, h2⟩
        · exact .inl ⟨q, cp, e1, e2, h1, ((Chg.of_below HWB.out).trans (Chg.of_grown h2 (P := fun k => k = g ∨ k = q) (fun k hk => .inr (by injection hk with hk; exact hk.symm)))).set (.inl rfl) _⟩
        · exact .inr ⟨((Chg.of_below HWB.out).trans (Chg.of_below h1 (P := fun k => k = g))).set rfl _, fun k hk => Nat.le_trans HWB.out.size (h2 k hk)⟩)
    clear hgr hown2 hlen KB OD SRC halt OD2 KBW HWB HNE HSW HW
    by_cases h16 : 24 < n + 1
    · have g1 : (24 : Int) < (n : Int) + 1 := by omega
      have HT2 := Lib.hid (HT.out _ (by rw [if_pos h16]))
      clear h16 HT
      go_wp2_with fail
      go_ret
      exact HT2.out
    · have g1 : ¬ (24 : Int) < (n : Int) + 1 := by omega
      have HT2 := Lib.hid (HT.out _ (by rw [if_neg h16]))
      clear h16 HT
      go_wp2_with fail
      go_ret
      exact HT2.out
end Go.Proofs.YtdiaiflleiebfaaGreatDoor

namespace Go.Proofs.YtdiaiflleiebfaaGreatDoor
open Go.RowKit Go

/-- Slots put when t numbers have been taken. -/
def slot8' (S : S8) (t : Nat) (l : List (Int × Int)) : Int ⊕ S8 := if 24 < S.ret.length + l.length then .inl 3 else .inr { drop8 S t with ret := S.ret ++ l }
theorem slot8_one {S : S8} (h : S.ret.length ≤ 24) (y : Int) : slot8' S 1 [(0, y)] = (if S.ret.length = 24 then .inl 3 else .inr { drop8 S 1 with ret := S.ret ++ [(0, y)] }) := by
  unfold slot8'
  by_cases h1 : S.ret.length = 24
  · rw [if_pos h1, if_pos (by simp; omega)]
  · rw [if_neg h1, if_neg (by simp; omega)]
theorem slotted_end {w w1 w' : World} {g lo hi n cap t : Nat} {A : Option Addr} {d r m c v o i : Value} {S : S8} {l : List (Int × Int)} {e : Ending} (h : Taken w w1 g lo hi A n cap d r m c v o i S) (hn : S.data.length - t = n)
    (T : ToldR lo g w1 r S.ret.length (S.ret ++ l) (.slice A n cap) (.int .i32 S.a) m c v o i (.int .i64 S.fault) (.int .i64 S.fuel) e w') : BenchEnd w g lo hi d r m c v o i S (slot8' S t l) e w' := by
  obtain ⟨v', rfl, hB, hO, hA⟩ := T
  have ho := h.own
  have hlen : (S.ret ++ l).length = S.ret.length + l.length := List.length_append
  have hrow : ∀ k, r.ownBlock = some k → lo ≤ k ∧ k < hi := fun k hk => ⟨own_lt ho.r k hk, ho.top _ (by simp) k hk⟩
  have hbo := box_out ho h.box (by decide) (by decide) (by decide) (by decide) (by decide)
  have hch : Chg w1 w' (fun k => k = g ∨ r.ownBlock = some k) := by
    rcases hA with ⟨q, cp, rfl, -, -, h2⟩ | ⟨h2, -⟩
    · refine h2.weaken fun k _ h3 => ?_
      rcases h3 with h3 | rfl
      · exact .inl h3
      · exact .inr rfl
    · exact h2.weaken fun k _ h3 => .inl h3
  have hchg : Chg w w' (fun k => k = g ∨ (lo ≤ k ∧ k < hi)) := by
    refine (h.chg.weaken fun k _ h2 => .inl h2).trans (hch.weaken fun k _ h2 => ?_)
    rcases h2 with h2 | h2
    · exact .inl h2
    · exact .inr (hrow k h2)
  have hne : ∀ x ∈ [d, m, c, v, o, i], ∀ k, x.ownBlock = some k → ¬ (k = g ∨ r.ownBlock = some k) := by
    intro x hx k hk2 hh
    have hx7 : x ∈ [d, r, m, c, v, o, i] := by
      simp only [List.mem_cons, List.not_mem_nil, or_false] at hx ⊢
      rcases hx with rfl | rfl | rfl | rfl | rfl | rfl <;> simp
    rcases hh with hh | hh
    · exact hbo x hx7 k hk2 hh
    · simp only [List.mem_cons, List.not_mem_nil, or_false] at hx
      have key : ∀ {e2 : TypeId} {s2 n2 : Nat} {xs : List Value}, w1.ownsRow lo e2 s2 x n2 xs → e2 ≠ 69 → False := fun h1 h2 => by
        rcases rows_ne h1 ho.r h2 with h3 | h3
        · rw [h3] at hk2; cases hk2
        · exact h3 (by rw [hk2, hh])
      rcases hx with rfl | rfl | rfl | rfl | rfl | rfl
      · exact key ho.d (by decide)
      · exact key ho.m (by decide)
      · exact key ho.c (by decide)
      · exact key ho.v (by decide)
      · exact key ho.o (by decide)
      · rcases tail_ne ho.i ho.r (by decide) with h3 | h3
        · rw [h3] at hk2; cases hk2
        · exact h3 (by rw [hk2, hh])
  unfold slot8'
  by_cases h16 : 24 < S.ret.length + l.length
  · rw [if_pos h16]
    refine ⟨hchg, by rw [hlen, if_pos h16], by decide, ?_⟩
    rcases hA with ⟨q, cp, rfl, rfl, -, h2⟩ | ⟨h2, -⟩
    · have hrrow : w'.ownsRow lo 69 2 (.slice (some ⟨q, 0, none⟩) S.ret.length cp) S.ret.length (slv S.ret) := by
        have h3 := own_prefixG (n := S.ret.length) hO (by rw [hlen]; omega)
        rw [← slv_take, List.take_left] at h3
        exact h3
      exact ⟨ho.top, ho.dm, ho.oi, hch.own ho.d (hne d (by simp)), hrrow, hch.own ho.m (hne m (by simp)), hch.own ho.c (hne c (by simp)), hch.own ho.v (hne v (by simp)), hch.own ho.o (hne o (by simp)), hch.ownT ho.i (hne i (by simp))⟩
    · exact h2.ownst ho hbo
  · rw [if_neg h16]
    have hd := ho.d
    rw [h.dform] at hd
    have hp := own_prefix hd h.le
    rw [← List.map_take] at hp
    have hl : (S.data.take n).length = n := by have := h.le; simp; omega
    have hdb : d.ownBlock = (Value.slice A n cap).ownBlock := by rw [h.dform]; exact own_block
    have hned : ∀ k, (Value.slice A n cap).ownBlock = some k → ¬ (k = g ∨ r.ownBlock = some k) := fun k hk => hne d (by simp) k (by rw [hdb]; exact hk)
    have ed : drop8 S t = { S with data := S.data.take n } := by unfold drop8; rw [hn]
    rw [ed]
    refine ⟨hchg, by rw [hlen, if_neg h16], .slice A n cap, v', m, c, v, o, i, hB, ?_⟩
    have hdm := ho.dm
    rw [hdb] at hdm
    refine OwnSt.of7T (S := { S with data := S.data.take n, ret := S.ret ++ l }) ?_ hO (hch.own ho.m (hne m (by simp))) (hch.own ho.c (hne c (by simp))) (hch.own ho.v (hne v (by simp))) (hch.own ho.o (hne o (by simp))) (hch.ownT ho.i (hne i (by simp))) hdm ho.oi
    show World.ownsRow _ lo _ 1 _ (S.data.take n).length _
    rw [hl]
    exact hch.own hp hned
set_option maxRecDepth 100000 in
set_option maxHeartbeats 1000000 in
theorem bw_push (d r m c v o i : Value) (S : S8) (g lo hi : Nat) (w : World) (ht : 1 ≤ S.data.length) (h16 : S.data.length ≤ 16) (hr24 : S.ret.length ≤ 24) (hhi : hi ≤ w.heap.size) (hlo : lo ≤ hi) (ho : OwnSt w lo hi d r m c v o i S) (hB : Blk w g 152 #[d, r, .int .i32 S.a, m, c, v, o, i, .int .i64 S.fault, .int .i64 S.fuel]) :
    Calls Tryz.prog 133 #[.pointer (some ⟨g, 0, none⟩)] w (BenchEnd w g lo hi d r m c v o i S (slot8' S 1 [(0, top8 S 0)])) := by
  obtain ⟨A, cap, rfl⟩ := own_form ho.d
  obtain ⟨n, hn⟩ : ∃ n, S.data.length = n + 1 := ⟨S.data.length - 1, by omega⟩
  have T0 : Hid (Taken w w g lo hi A (n + 1) cap (.slice A S.data.length cap) r m c v o i S) := Lib.hid (by have h := Taken.start hhi hlo ho hB; exact ⟨rfl, by omega, hhi, hlo, h.chg, h.own, by rw [← hn]; exact hB⟩)
  have HN : Hid (S.data.length = n + 1) := Lib.hid hn
  have h18 : n + 1 ≤ 16 := by omega
  have HR := Lib.hid hr24
  clear ho hB hhi hlo h16 ht hn hr24
  obtain ⟨q0, hA0, hc0, hy0⟩ := T0.out.cell
  subst hA0
  obtain ⟨y, hy⟩ : ∃ y, S.data.getD (n) 0 = y := ⟨_, rfl⟩
  rw [hy] at hy0
  have Hy : Hid (S.data.getD (n) 0 = y) := Lib.hid hy
  have HK0 := Lib.hid (take_any g q0 (n) cap y _ _ _ _ _ _ _ _ _ w (by omega) hc0 T0.out.box hy0)
  clear hy hy0 hc0
  have HL : Hid (top8 S 0 = y) := Lib.hid (by unfold top8; rw [HN.out, ← Hy.out]; rfl)
  go_enter Tryz.func133, Tryz.ntmps133
  go_wp2_with fail
  refine HK0.out.mono ?_
  rintro e w1 ⟨rfl, hw⟩
  have T1 : Hid (Taken w w1 g lo hi (some ⟨q0, 0, none⟩) (n) cap (.slice (some ⟨q0, 0, none⟩) S.data.length cap) r m c v o i S) := Lib.hid (by rw [hw]; exact T0.out.step)
  clear hw HK0
  have hO := T1.out.own.r
  obtain ⟨R, rc, hR⟩ := own_formG hO
  subst hR
  have HH := Lib.hid (putSlot_any lo g R S.ret.length rc S.ret 0 y (.slice (some ⟨q0, 0, none⟩) n cap) (.int .i32 S.a) m c v o i (.int .i64 S.fault) (.int .i64 S.fuel) w1 rfl HR.out (by have h1 := T1.out.hhi; have h2 := T1.out.hlo; have h3 := T1.out.chg.size; omega) T1.out.box hO)
  clear hO
  go_wp2_with fail
  refine HH.out.mono ?_
  clear HH
  intro e w9 hh
  have hE := slotted_end (t := 1) T1.out (by rw [HN.out]; rfl) hh
  rw [← HL.out] at hE
  clear hh
  obtain ⟨u, rfl⟩ := hE.ret
  have HE := Lib.hid hE
  clear hE
  go_wp2_with fail
  go_ret
  exact HE.out
end Go.Proofs.YtdiaiflleiebfaaGreatDoor

namespace Go.Proofs.YtdiaiflleiebfaaGreatDoor
open Go.RowKit Go

/-- A cell of a row of numbers. -/
theorem own_cell {w : World} {lo n i : Nat} {e : TypeId} {v : Value} {xs : List Value} (h : w.ownsRow lo e 1 v n xs) (hi : i < n) : ∃ q cp, v = .slice (some ⟨q, 0, none⟩) n cp ∧ n ≤ cp ∧ q < w.heap.size ∧ w.cell? ⟨q, i, none⟩ = xs[i]? := by
  rcases h.2 with ⟨e1, h0⟩ | ⟨q, cp, cur, e1, -, hrow, hle, -, hsz, ht⟩
  · omega
  · refine ⟨q, cp, e1, hle, (Array.getElem?_eq_some_iff.1 hrow).1, ?_⟩
    rw [cell_of_row w q i cur e (0, 0) hrow]
    have h1 := congrArg (·[i]?) ht
    simp only [List.getElem?_take] at h1
    rw [if_pos (by omega)] at h1
    simpa using h1
theorem isMem_yes (y : Int) (w : World) (h1 : (0 : Int) ≤ y) (h2 : y < 32) : Calls Tryz.prog 164 #[.int .i64 y] w (fun e w' => e = .returned (.bool true) ∧ w' = w) := by
  have h3 : (0 : Int) ≤ y ∧ y < 32 := ⟨h1, h2⟩
  go_enter Tryz.func164, Tryz.ntmps164
  go_wp2_with fail
  go_ret
  exact ⟨rfl, rfl⟩
theorem isMem_no (y : Int) (w : World) (h : ¬ ((0 : Int) ≤ y ∧ y < 32)) : Calls Tryz.prog 164 #[.int .i64 y] w (fun e w' => e = .returned (.bool false) ∧ w' = w) := by
  by_cases h1 : (0 : Int) ≤ y
  · have h2 : ¬ y < 32 := fun h2 => h ⟨h1, h2⟩
    have h3 : (32 : Int) ≤ y := by omega
    clear h
    go_enter Tryz.func164, Tryz.ntmps164
    go_wp2_with fail
    go_ret
    exact ⟨rfl, rfl⟩
  · have h2 : y < 0 := by omega
    clear h
    go_enter Tryz.func164, Tryz.ntmps164
    go_wp2_with fail
    go_ret
    exact ⟨rfl, rfl⟩
set_option maxRecDepth 100000 in
set_option maxHeartbeats 1000000 in
theorem bw_fetch_mem (d r m c v o i : Value) (S : S8) (g lo hi : Nat) (w : World) (ht : 1 ≤ S.data.length) (h16 : S.data.length ≤ 16)  (hm : S.mem.length = 32) (j : Nat) (hj : j ≤ 31) (htj : top8 S 0 = (j : Int)) (hhi : hi ≤ w.heap.size) (hlo : lo ≤ hi) (ho : OwnSt w lo hi d r m c v o i S) (hB : Blk w g 152 #[d, r, .int .i32 S.a, m, c, v, o, i, .int .i64 S.fault, .int .i64 S.fuel]) :
    Calls Tryz.prog 127 #[.pointer (some ⟨g, 0, none⟩)] w (BenchEnd w g lo hi d r m c v o i S (put8 S 1 [S.mem.getD j 0])) := by
  obtain ⟨A, cap, rfl⟩ := own_form ho.d
  obtain ⟨n, hn⟩ : ∃ n, S.data.length = n + 1 := ⟨S.data.length - 1, by omega⟩
  have T0 : Hid (Taken w w g lo hi A (n + 1) cap (.slice A S.data.length cap) r m c v o i S) := Lib.hid (by have h := Taken.start hhi hlo ho hB; exact ⟨rfl, by omega, hhi, hlo, h.chg, h.own, by rw [← hn]; exact hB⟩)
  have HN : Hid (S.data.length = n + 1) := Lib.hid hn
  have H16 := Lib.hid h16
  have h18 : n + 1 ≤ 16 := by omega
  have HM := Lib.hid hm
  clear hm
  clear ho hB hhi hlo h16 ht hn
  obtain ⟨q0, hA0, hc0, hy0⟩ := T0.out.cell
  subst hA0
  obtain ⟨y, hy⟩ : ∃ y, S.data.getD (n) 0 = y := ⟨_, rfl⟩
  rw [hy] at hy0
  have Hy : Hid (S.data.getD (n) 0 = y) := Lib.hid hy
  have HK0 := Lib.hid (take_any g q0 (n) cap y _ _ _ _ _ _ _ _ _ w (by omega) hc0 T0.out.box hy0)
  clear hy hy0 hc0
  have ey : y = (j : Int) := by rw [← htj]; unfold top8; rw [HN.out, ← Hy.out]; rfl
  subst ey
  clear htj
  have j1 : (0 : Int) ≤ (j : Int) := by omega
  have j2 : (j : Int) < 32 := by omega
  go_enter Tryz.func127, Tryz.ntmps127
  go_wp2_with fail
  refine HK0.out.mono ?_
  rintro e w1 ⟨rfl, hw⟩
  have T1 : Hid (Taken w w1 g lo hi (some ⟨q0, 0, none⟩) (n) cap (.slice (some ⟨q0, 0, none⟩) S.data.length cap) r m c v o i S) := Lib.hid (by rw [hw]; exact T0.out.step)
  clear hw HK0
  obtain ⟨qm, cm, hM, hcm, hqm, hmc⟩ := own_cell T1.out.own.m (i := j) (by have := HM.out; omega)
  rw [HM.out] at hM hcm
  subst hM
  obtain ⟨u, hu⟩ : ∃ u, S.mem.getD j 0 = u := ⟨_, rfl⟩
  have hmc2 : w1.cell? ⟨qm, j, none⟩ = some (.int .i32 u) := by
    rw [hmc, ← hu]
    simp [List.getElem?_eq_getElem (show j < S.mem.length by rw [HM.out]; omega), List.getD, iv]
  have HU := Lib.hid hu
  obtain ⟨p0, p1, p2, p3, p4, p5, p6, p7, p8, p9⟩ := st_cells T1.out.box
  clear hmc hu
  have HI := Lib.hid (isMem_yes (j : Int) w1 j1 j2)
  go_wp2_with fail
  refine HI.out.mono ?_
  rintro e w2 ⟨rfl, rfl⟩
  clear HI
  have HL : Hid (put8 S 1 [u] = put8 S 1 [S.mem.getD j 0]) := Lib.hid (by rw [HU.out])
  go_wp2_with fail
  refine (tell_end (t := 1) (l := [u]) T1.out (by rw [HN.out]; rfl) H16.out (by simp) (fun h => absurd h (by have h1 := H16.out; have h2 := HN.out; simp; omega))).mono ?_
  intro e w9 hE
  rw [HL.out] at hE
  obtain ⟨z, rfl⟩ := hE.ret
  have HE := Lib.hid hE
  clear hE
  go_wp2_with fail
  go_ret
  exact HE.out
set_option maxRecDepth 100000 in
set_option maxHeartbeats 1000000 in
theorem bw_fetch_cell (d r m c v o i : Value) (S : S8) (g lo hi : Nat) (w : World) (ht : 1 ≤ S.data.length) (h16 : S.data.length ≤ 16)  (hc : S.cells.length ≤ 2000) (j : Nat) (hj : j < S.cells.length) (htj : top8 S 0 = 1024 + (j : Int)) (hhi : hi ≤ w.heap.size) (hlo : lo ≤ hi) (ho : OwnSt w lo hi d r m c v o i S) (hB : Blk w g 152 #[d, r, .int .i32 S.a, m, c, v, o, i, .int .i64 S.fault, .int .i64 S.fuel]) :
    Calls Tryz.prog 127 #[.pointer (some ⟨g, 0, none⟩)] w (BenchEnd w g lo hi d r m c v o i S (put8 S 1 [wrap32 (S.cells.getD j 0 : Nat)])) := by
  obtain ⟨A, cap, rfl⟩ := own_form ho.d
  obtain ⟨n, hn⟩ : ∃ n, S.data.length = n + 1 := ⟨S.data.length - 1, by omega⟩
  have T0 : Hid (Taken w w g lo hi A (n + 1) cap (.slice A S.data.length cap) r m c v o i S) := Lib.hid (by have h := Taken.start hhi hlo ho hB; exact ⟨rfl, by omega, hhi, hlo, h.chg, h.own, by rw [← hn]; exact hB⟩)
  have HN : Hid (S.data.length = n + 1) := Lib.hid hn
  have H16 := Lib.hid h16
  have h18 : n + 1 ≤ 16 := by omega
  have HC := Lib.hid hc
  have HJ := Lib.hid hj
  clear hc hj
  clear ho hB hhi hlo h16 ht hn
  obtain ⟨q0, hA0, hc0, hy0⟩ := T0.out.cell
  subst hA0
  obtain ⟨y, hy⟩ : ∃ y, S.data.getD (n) 0 = y := ⟨_, rfl⟩
  rw [hy] at hy0
  have Hy : Hid (S.data.getD (n) 0 = y) := Lib.hid hy
  have HK0 := Lib.hid (take_any g q0 (n) cap y _ _ _ _ _ _ _ _ _ w (by omega) hc0 T0.out.box hy0)
  clear hy hy0 hc0
  have ey : y = 1024 + (j : Int) := by rw [← htj]; unfold top8; rw [HN.out, ← Hy.out]; rfl
  subst ey
  clear htj
  have j1 : ¬ ((0 : Int) ≤ 1024 + (j : Int) ∧ 1024 + (j : Int) < 32) := by omega
  have j2 : (0 : Int) ≤ (j : Int) := by omega
  have j3 : 1024 + (j : Int) - 1024 = (j : Int) := by omega
  have j5 : j ≤ 2000 := by have := HJ.out; have := HC.out; omega
  obtain ⟨N, hN⟩ : ∃ N, S.cells.length = N := ⟨_, rfl⟩
  have HNN := Lib.hid hN
  have j4 : (j : Int) < (N : Int) := by have := HJ.out; omega
  have j6 : N ≤ 2000 := by have := HC.out; omega
  clear hN
  go_enter Tryz.func127, Tryz.ntmps127
  go_wp2_with fail
  refine HK0.out.mono ?_
  rintro e w1 ⟨rfl, hw⟩
  have T1 : Hid (Taken w w1 g lo hi (some ⟨q0, 0, none⟩) (n) cap (.slice (some ⟨q0, 0, none⟩) S.data.length cap) r m c v o i S) := Lib.hid (by rw [hw]; exact T0.out.step)
  clear hw HK0
  obtain ⟨qm, cm, hM, hcm, hqm, hmc⟩ := own_cell T1.out.own.c (i := j) HJ.out
  subst hM
  obtain ⟨p0, p1, p2, p3, p4, p5, p6, p7, p8, p9⟩ := st_cells T1.out.box
  rw [HNN.out] at p4
  obtain ⟨u, hu⟩ : ∃ u, S.cells.getD j 0 = u := ⟨_, rfl⟩
  have hmc2 : w1.cell? ⟨qm, j, none⟩ = some (.int .u32 (u : Int)) := by
    rw [hmc, ← hu]
    simp [List.getElem?_eq_getElem (show j < S.cells.length from HJ.out), List.getD, u32v]
  have HU := Lib.hid hu
  clear hmc hu hcm
  have HI := Lib.hid (isMem_no (1024 + (j : Int)) w1 j1)
  go_wp2_with fail
  refine HI.out.mono ?_
  rintro e w2 ⟨rfl, rfl⟩
  clear HI
  have HL : Hid (put8 S 1 [wrap32 (u : Int)] = put8 S 1 [wrap32 (S.cells.getD j 0 : Nat)]) := Lib.hid (by rw [HU.out])
  go_wp2_with fail
  refine (tell_end (t := 1) (l := [wrap32 (u : Int)]) T1.out (by rw [HN.out]; rfl) H16.out (by simp) (fun h => absurd h (by have h1 := H16.out; have h2 := HN.out; simp; omega))).mono ?_
  intro e w9 hE
  rw [HL.out] at hE
  obtain ⟨z, rfl⟩ := hE.ret
  have HE := Lib.hid hE
  clear hE
  go_wp2_with fail
  go_ret
  exact HE.out
set_option maxRecDepth 100000 in
set_option maxHeartbeats 1000000 in
theorem bw_fetch_low (d r m c v o i : Value) (S : S8) (g lo hi : Nat) (w : World) (ht : 1 ≤ S.data.length) (h16 : S.data.length ≤ 16)  (hr0 : -2147483648 ≤ top8 S 0) (hr1 : top8 S 0 ≤ 2147483647) (h0 : ¬ ((0 : Int) ≤ top8 S 0 ∧ top8 S 0 < 32)) (h1 : top8 S 0 < 1024) (hhi : hi ≤ w.heap.size) (hlo : lo ≤ hi) (ho : OwnSt w lo hi d r m c v o i S) (hB : Blk w g 152 #[d, r, .int .i32 S.a, m, c, v, o, i, .int .i64 S.fault, .int .i64 S.fuel]) :
    Calls Tryz.prog 127 #[.pointer (some ⟨g, 0, none⟩)] w (BenchEnd w g lo hi d r m c v o i S (.inl 4)) := by
  obtain ⟨A, cap, rfl⟩ := own_form ho.d
  obtain ⟨n, hn⟩ : ∃ n, S.data.length = n + 1 := ⟨S.data.length - 1, by omega⟩
  have T0 : Hid (Taken w w g lo hi A (n + 1) cap (.slice A S.data.length cap) r m c v o i S) := Lib.hid (by have h := Taken.start hhi hlo ho hB; exact ⟨rfl, by omega, hhi, hlo, h.chg, h.own, by rw [← hn]; exact hB⟩)
  have HN : Hid (S.data.length = n + 1) := Lib.hid hn
  have h18 : n + 1 ≤ 16 := by omega
  clear ho hB hhi hlo h16 ht hn
  obtain ⟨q0, hA0, hc0, hy0⟩ := T0.out.cell
  subst hA0
  obtain ⟨y, hy⟩ : ∃ y, S.data.getD (n) 0 = y := ⟨_, rfl⟩
  rw [hy] at hy0
  have Hy : Hid (S.data.getD (n) 0 = y) := Lib.hid hy
  have HK0 := Lib.hid (take_any g q0 (n) cap y _ _ _ _ _ _ _ _ _ w (by omega) hc0 T0.out.box hy0)
  clear hy hy0 hc0
  have ey : top8 S 0 = y := by unfold top8; rw [HN.out, ← Hy.out]; rfl
  rw [ey] at hr0 hr1 h0 h1
  have j1 : ¬ ((0 : Int) ≤ y ∧ y < 32) := by omega
  obtain ⟨N, hN⟩ : ∃ N, S.cells.length = N := ⟨_, rfl⟩
  have HNN := Lib.hid hN
  have j2 : y - 1024 < 0 := by omega
  clear h1
  clear hN ey h0
  go_enter Tryz.func127, Tryz.ntmps127
  go_wp2_with fail
  refine HK0.out.mono ?_
  rintro e w1 ⟨rfl, hw⟩
  have T1 : Hid (Taken w w1 g lo hi (some ⟨q0, 0, none⟩) (n) cap (.slice (some ⟨q0, 0, none⟩) S.data.length cap) r m c v o i S) := Lib.hid (by rw [hw]; exact T0.out.step)
  clear hw HK0
  obtain ⟨C, cc, hC⟩ := own_form T1.out.own.c
  subst hC
  obtain ⟨p0, p1, p2, p3, p4, p5, p6, p7, p8, p9⟩ := st_cells T1.out.box
  rw [HNN.out] at p4
  have HI := Lib.hid (isMem_no y w1 j1)
  have HE := Lib.hid (taken_fault T1.out (f := 4) (by decide))
  go_wp2_with fail
  refine HI.out.mono ?_
  rintro e w2 ⟨rfl, rfl⟩
  clear HI
  go_wp2_with fail
  go_ret
  exact HE.out
set_option maxRecDepth 100000 in
set_option maxHeartbeats 1000000 in
theorem bw_fetch_high (d r m c v o i : Value) (S : S8) (g lo hi : Nat) (w : World) (ht : 1 ≤ S.data.length) (h16 : S.data.length ≤ 16)  (hr0 : -2147483648 ≤ top8 S 0) (hr1 : top8 S 0 ≤ 2147483647) (h0 : ¬ ((0 : Int) ≤ top8 S 0 ∧ top8 S 0 < 32)) (h1 : 1024 + (S.cells.length : Int) ≤ top8 S 0) (hhi : hi ≤ w.heap.size) (hlo : lo ≤ hi) (ho : OwnSt w lo hi d r m c v o i S) (hB : Blk w g 152 #[d, r, .int .i32 S.a, m, c, v, o, i, .int .i64 S.fault, .int .i64 S.fuel]) :
    Calls Tryz.prog 127 #[.pointer (some ⟨g, 0, none⟩)] w (BenchEnd w g lo hi d r m c v o i S (.inl 4)) := by
  obtain ⟨A, cap, rfl⟩ := own_form ho.d
  obtain ⟨n, hn⟩ : ∃ n, S.data.length = n + 1 := ⟨S.data.length - 1, by omega⟩
  have T0 : Hid (Taken w w g lo hi A (n + 1) cap (.slice A S.data.length cap) r m c v o i S) := Lib.hid (by have h := Taken.start hhi hlo ho hB; exact ⟨rfl, by omega, hhi, hlo, h.chg, h.own, by rw [← hn]; exact hB⟩)
  have HN : Hid (S.data.length = n + 1) := Lib.hid hn
  have h18 : n + 1 ≤ 16 := by omega
  clear ho hB hhi hlo h16 ht hn
  obtain ⟨q0, hA0, hc0, hy0⟩ := T0.out.cell
  subst hA0
  obtain ⟨y, hy⟩ : ∃ y, S.data.getD (n) 0 = y := ⟨_, rfl⟩
  rw [hy] at hy0
  have Hy : Hid (S.data.getD (n) 0 = y) := Lib.hid hy
  have HK0 := Lib.hid (take_any g q0 (n) cap y _ _ _ _ _ _ _ _ _ w (by omega) hc0 T0.out.box hy0)
  clear hy hy0 hc0
  have ey : top8 S 0 = y := by unfold top8; rw [HN.out, ← Hy.out]; rfl
  rw [ey] at hr0 hr1 h0 h1
  have j1 : ¬ ((0 : Int) ≤ y ∧ y < 32) := by omega
  obtain ⟨N, hN⟩ : ∃ N, S.cells.length = N := ⟨_, rfl⟩
  rw [hN] at h1
  have HNN := Lib.hid hN
  have j2 : (0 : Int) ≤ y - 1024 := by omega
  have j4 : (N : Int) ≤ y - 1024 := by omega
  clear h1
  clear hN ey h0
  go_enter Tryz.func127, Tryz.ntmps127
  go_wp2_with fail
  refine HK0.out.mono ?_
  rintro e w1 ⟨rfl, hw⟩
  have T1 : Hid (Taken w w1 g lo hi (some ⟨q0, 0, none⟩) (n) cap (.slice (some ⟨q0, 0, none⟩) S.data.length cap) r m c v o i S) := Lib.hid (by rw [hw]; exact T0.out.step)
  clear hw HK0
  obtain ⟨C, cc, hC⟩ := own_form T1.out.own.c
  subst hC
  obtain ⟨p0, p1, p2, p3, p4, p5, p6, p7, p8, p9⟩ := st_cells T1.out.box
  rw [HNN.out] at p4
  have HI := Lib.hid (isMem_no y w1 j1)
  have HE := Lib.hid (taken_fault T1.out (f := 4) (by decide))
  go_wp2_with fail
  refine HI.out.mono ?_
  rintro e w2 ⟨rfl, rfl⟩
  clear HI
  go_wp2_with fail
  go_ret
  exact HE.out
end Go.Proofs.YtdiaiflleiebfaaGreatDoor
