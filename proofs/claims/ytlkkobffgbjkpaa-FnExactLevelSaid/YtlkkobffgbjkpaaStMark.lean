/-
  Marks in a state.
-/
import Derived.Test.YtlkkobffgbjkpaaStGen
namespace Go.Proofs.Ytlkkobffgbjkpaa
open Go.RowKit Go

set_option maxRecDepth 100000 in
set_option maxHeartbeats 8000000 in
theorem markst_any (lo hi : Nat) (d r m c v o i : Value) (S : S8) (k : Nat) (h1 : k ≤ 100000) (hs : totSt S ≤ 4000000) (w : World) (ho : OwnSt w lo hi d r m c v o i S) (_hw : hi ≤ w.heap.size) :
    Calls Try.prog 39 #[.agg #[d, r, .int .i32 S.a, m, c, v, o, i, .int .i64 S.fault, .int .i64 S.fuel], .int .i64 k] w fun e w' => e = .returned (.int .i64 ((k : Int) + (totSt S : Int))) ∧ OwnSt w' lo hi d r m c v o i (markSt S k) ∧ Kept lo hi w w' := by
  have hts := hs
  unfold totSt at hs
  obtain ⟨⟨A0, a0, rfl⟩, ⟨A1, a1, rfl⟩, ⟨A2, a2, rfl⟩, ⟨A3, a3, rfl⟩, ⟨A4, a4, rfl⟩, ⟨A5, a5, rfl⟩, ⟨A6, a6, rfl⟩⟩ := ho.form hts
  have TOP := Lib.hid ho.top
  have LO0 := Lib.hid (own_lt ho.d)
  have HI0 : Hid (∀ k, (Value.slice A0 S.data.length a0).ownBlock = some k → k < hi) := Lib.hid (fun k hk => ho.top _ (by simp) k hk)
  have LO1 := Lib.hid (own_lt ho.r)
  have HI1 : Hid (∀ k, (Value.slice A1 S.ret.length a1).ownBlock = some k → k < hi) := Lib.hid (fun k hk => ho.top _ (by simp) k hk)
  have LO2 := Lib.hid (own_lt ho.m)
  have HI2 : Hid (∀ k, (Value.slice A2 S.mem.length a2).ownBlock = some k → k < hi) := Lib.hid (fun k hk => ho.top _ (by simp) k hk)
  have LO3 := Lib.hid (own_lt ho.c)
  have HI3 : Hid (∀ k, (Value.slice A3 S.cells.length a3).ownBlock = some k → k < hi) := Lib.hid (fun k hk => ho.top _ (by simp) k hk)
  have LO4 := Lib.hid (own_lt ho.v)
  have HI4 : Hid (∀ k, (Value.slice A4 S.vars.length a4).ownBlock = some k → k < hi) := Lib.hid (fun k hk => ho.top _ (by simp) k hk)
  have LO5 := Lib.hid (own_lt ho.o)
  have HI5 : Hid (∀ k, (Value.slice A5 S.out.length a5).ownBlock = some k → k < hi) := Lib.hid (fun k hk => ho.top _ (by simp) k hk)
  have LO6 := Lib.hid (tail_lt ho.i)
  have HI6 : Hid (∀ k, (Value.slice A6 S.inp.length a6).ownBlock = some k → k < hi) := Lib.hid (fun k hk => ho.top _ (by simp) k hk)
  have DM := Lib.hid ho.dm
  have OI := Lib.hid ho.oi
  have R0 : Hid (Rows7 (w.alloc (.cells #[.slice A0 S.data.length a0, .slice A1 S.ret.length a1, .int .i32 S.a, .slice A2 S.mem.length a2, .slice A3 S.cells.length a3, .slice A4 S.vars.length a4, .slice A5 S.out.length a5, .slice A6 S.inp.length a6, .int .i64 S.fault, .int .i64 S.fuel] 59)) lo S (.slice A0 S.data.length a0) (.slice A1 S.ret.length a1) (.slice A2 S.mem.length a2) (.slice A3 S.cells.length a3) (.slice A4 S.vars.length a4) (.slice A5 S.out.length a5) (.slice A6 S.inp.length a6) S.data S.ret S.mem S.cells S.vars S.out S.inp) := Lib.hid ⟨ho.d.alloc _, ho.r.alloc _, ho.m.alloc _, ho.c.alloc _, ho.v.alloc _, ho.o.alloc _, ho.i.alloc _⟩
  have KB0 := Lib.hid (Blk.new w 59 #[.slice A0 S.data.length a0, .slice A1 S.ret.length a1, .int .i32 S.a, .slice A2 S.mem.length a2, .slice A3 S.cells.length a3, .slice A4 S.vars.length a4, .slice A5 S.out.length a5, .slice A6 S.inp.length a6, .int .i64 S.fault, .int .i64 S.fuel])
  have KE0 : Hid (Kept lo hi w (w.alloc (.cells #[.slice A0 S.data.length a0, .slice A1 S.ret.length a1, .int .i32 S.a, .slice A2 S.mem.length a2, .slice A3 S.cells.length a3, .slice A4 S.vars.length a4, .slice A5 S.out.length a5, .slice A6 S.inp.length a6, .int .i64 S.fault, .int .i64 S.fuel] 59))) := Lib.hid (Kept.of_below (below_alloc _ _))
  clear ho hts
  go_enter Try.func39, Try.ntmps39
  go_wp2_with fail
  refine (mkaI lo _ S.data _ (k) (by push_cast; omega) (by omega) (by omega) _ R0.out.d).mono ?_
  rintro e w1 ⟨rfl, ho1, hg1⟩
  have R1 : Hid (Rows7 w1 lo S (.slice A0 S.data.length a0) (.slice A1 S.ret.length a1) (.slice A2 S.mem.length a2) (.slice A3 S.cells.length a3) (.slice A4 S.vars.length a4) (.slice A5 S.out.length a5) (.slice A6 S.inp.length a6) (marksI (k) S.data.length) S.ret S.mem S.cells S.vars S.out S.inp) := Lib.hid ⟨ho1, R0.out.r.kept hg1 (rows_ne R0.out.r R0.out.d (by decide)), R0.out.m.kept hg1 (apart_sym DM.out), R0.out.c.kept hg1 (rows_ne R0.out.c R0.out.d (by decide)), R0.out.v.kept hg1 (rows_ne R0.out.v R0.out.d (by decide)), R0.out.o.kept hg1 (rows_ne R0.out.o R0.out.d (by decide)), R0.out.i.kept hg1 (tail_ne R0.out.i R0.out.d (by decide))⟩
  have kb1 := KB0.out.grown hg1 (box_neG KB0.out R0.out.d (by decide))
  have KE1 : Hid (Kept lo hi w w1) := Lib.hid (KE0.out.trans (Kept.of_grown hg1 fun k hk => ⟨LO0.out k hk, HI0.out k hk⟩))
  obtain ⟨p1_0, p1_1, p1_2, p1_3, p1_4, p1_5, p1_6, p1_7, p1_8, p1_9⟩ := st_cells kb1
  have KB1 := Lib.hid kb1
  clear kb1 ho1 hg1 KE0 KB0 R0 
  go_wp2_with fail
  refine (mkaS lo _ S.ret _ (k + S.data.length) (by push_cast; omega) (by omega) (by omega) _ R1.out.r).mono ?_
  rintro e w2 ⟨rfl, ho2, hg2⟩
  have R2 : Hid (Rows7 w2 lo S (.slice A0 S.data.length a0) (.slice A1 S.ret.length a1) (.slice A2 S.mem.length a2) (.slice A3 S.cells.length a3) (.slice A4 S.vars.length a4) (.slice A5 S.out.length a5) (.slice A6 S.inp.length a6) (marksI (k) S.data.length) (marksS (k + S.data.length) S.ret.length) S.mem S.cells S.vars S.out S.inp) := Lib.hid ⟨R1.out.d.kept hg2 (rows_ne R1.out.d R1.out.r (by decide)), ho2, R1.out.m.kept hg2 (rows_ne R1.out.m R1.out.r (by decide)), R1.out.c.kept hg2 (rows_ne R1.out.c R1.out.r (by decide)), R1.out.v.kept hg2 (rows_ne R1.out.v R1.out.r (by decide)), R1.out.o.kept hg2 (rows_ne R1.out.o R1.out.r (by decide)), R1.out.i.kept hg2 (tail_ne R1.out.i R1.out.r (by decide))⟩
  have kb2 := KB1.out.grown hg2 (box_neG KB1.out R1.out.r (by decide))
  have KE2 : Hid (Kept lo hi w w2) := Lib.hid (KE1.out.trans (Kept.of_grown hg2 fun k hk => ⟨LO1.out k hk, HI1.out k hk⟩))
  obtain ⟨p2_0, p2_1, p2_2, p2_3, p2_4, p2_5, p2_6, p2_7, p2_8, p2_9⟩ := st_cells kb2
  have KB2 := Lib.hid kb2
  clear kb2 ho2 hg2 KE1 KB1 R1 p1_0 p1_1 p1_2 p1_3 p1_4 p1_5 p1_6 p1_7 p1_8 p1_9
  go_wp2_with fail
  refine (mkaI lo _ S.mem _ (k + S.data.length + 2 * S.ret.length) (by push_cast; omega) (by omega) (by omega) _ R2.out.m).mono ?_
  rintro e w3 ⟨rfl, ho3, hg3⟩
  have R3 : Hid (Rows7 w3 lo S (.slice A0 S.data.length a0) (.slice A1 S.ret.length a1) (.slice A2 S.mem.length a2) (.slice A3 S.cells.length a3) (.slice A4 S.vars.length a4) (.slice A5 S.out.length a5) (.slice A6 S.inp.length a6) (marksI (k) S.data.length) (marksS (k + S.data.length) S.ret.length) (marksI (k + S.data.length + 2 * S.ret.length) S.mem.length) S.cells S.vars S.out S.inp) := Lib.hid ⟨R2.out.d.kept hg3 (DM.out), R2.out.r.kept hg3 (rows_ne R2.out.r R2.out.m (by decide)), ho3, R2.out.c.kept hg3 (rows_ne R2.out.c R2.out.m (by decide)), R2.out.v.kept hg3 (rows_ne R2.out.v R2.out.m (by decide)), R2.out.o.kept hg3 (rows_ne R2.out.o R2.out.m (by decide)), R2.out.i.kept hg3 (tail_ne R2.out.i R2.out.m (by decide))⟩
  have kb3 := KB2.out.grown hg3 (box_neG KB2.out R2.out.m (by decide))
  have KE3 : Hid (Kept lo hi w w3) := Lib.hid (KE2.out.trans (Kept.of_grown hg3 fun k hk => ⟨LO2.out k hk, HI2.out k hk⟩))
  obtain ⟨p3_0, p3_1, p3_2, p3_3, p3_4, p3_5, p3_6, p3_7, p3_8, p3_9⟩ := st_cells kb3
  have KB3 := Lib.hid kb3
  clear kb3 ho3 hg3 KE2 KB2 R2 p2_0 p2_1 p2_2 p2_3 p2_4 p2_5 p2_6 p2_7 p2_8 p2_9
  go_wp2_with fail
  refine (mkaN lo _ S.cells _ (k + S.data.length + 2 * S.ret.length + S.mem.length) (by push_cast; omega) (by omega) (by omega) _ R3.out.c).mono ?_
  rintro e w4 ⟨rfl, ho4, hg4⟩
  have R4 : Hid (Rows7 w4 lo S (.slice A0 S.data.length a0) (.slice A1 S.ret.length a1) (.slice A2 S.mem.length a2) (.slice A3 S.cells.length a3) (.slice A4 S.vars.length a4) (.slice A5 S.out.length a5) (.slice A6 S.inp.length a6) (marksI (k) S.data.length) (marksS (k + S.data.length) S.ret.length) (marksI (k + S.data.length + 2 * S.ret.length) S.mem.length) (marksN (k + S.data.length + 2 * S.ret.length + S.mem.length) S.cells.length) S.vars S.out S.inp) := Lib.hid ⟨R3.out.d.kept hg4 (rows_ne R3.out.d R3.out.c (by decide)), R3.out.r.kept hg4 (rows_ne R3.out.r R3.out.c (by decide)), R3.out.m.kept hg4 (rows_ne R3.out.m R3.out.c (by decide)), ho4, R3.out.v.kept hg4 (rows_ne R3.out.v R3.out.c (by decide)), R3.out.o.kept hg4 (rows_ne R3.out.o R3.out.c (by decide)), R3.out.i.kept hg4 (tail_ne R3.out.i R3.out.c (by decide))⟩
  have kb4 := KB3.out.grown hg4 (box_neG KB3.out R3.out.c (by decide))
  have KE4 : Hid (Kept lo hi w w4) := Lib.hid (KE3.out.trans (Kept.of_grown hg4 fun k hk => ⟨LO3.out k hk, HI3.out k hk⟩))
  obtain ⟨p4_0, p4_1, p4_2, p4_3, p4_4, p4_5, p4_6, p4_7, p4_8, p4_9⟩ := st_cells kb4
  have KB4 := Lib.hid kb4
  clear kb4 ho4 hg4 KE3 KB3 R3 p3_0 p3_1 p3_2 p3_3 p3_4 p3_5 p3_6 p3_7 p3_8 p3_9
  go_wp2_with fail
  refine (mkaL lo _ S.vars _ (k + S.data.length + 2 * S.ret.length + S.mem.length + S.cells.length) (by push_cast; omega) (by omega) (by omega) _ R4.out.v).mono ?_
  rintro e w5 ⟨rfl, ho5, hg5⟩
  have R5 : Hid (Rows7 w5 lo S (.slice A0 S.data.length a0) (.slice A1 S.ret.length a1) (.slice A2 S.mem.length a2) (.slice A3 S.cells.length a3) (.slice A4 S.vars.length a4) (.slice A5 S.out.length a5) (.slice A6 S.inp.length a6) (marksI (k) S.data.length) (marksS (k + S.data.length) S.ret.length) (marksI (k + S.data.length + 2 * S.ret.length) S.mem.length) (marksN (k + S.data.length + 2 * S.ret.length + S.mem.length) S.cells.length) (marksL (k + S.data.length + 2 * S.ret.length + S.mem.length + S.cells.length) S.vars.length) S.out S.inp) := Lib.hid ⟨R4.out.d.kept hg5 (rows_ne R4.out.d R4.out.v (by decide)), R4.out.r.kept hg5 (rows_ne R4.out.r R4.out.v (by decide)), R4.out.m.kept hg5 (rows_ne R4.out.m R4.out.v (by decide)), R4.out.c.kept hg5 (rows_ne R4.out.c R4.out.v (by decide)), ho5, R4.out.o.kept hg5 (rows_ne R4.out.o R4.out.v (by decide)), R4.out.i.kept hg5 (tail_ne R4.out.i R4.out.v (by decide))⟩
  have kb5 := KB4.out.grown hg5 (box_neG KB4.out R4.out.v (by decide))
  have KE5 : Hid (Kept lo hi w w5) := Lib.hid (KE4.out.trans (Kept.of_grown hg5 fun k hk => ⟨LO4.out k hk, HI4.out k hk⟩))
  obtain ⟨p5_0, p5_1, p5_2, p5_3, p5_4, p5_5, p5_6, p5_7, p5_8, p5_9⟩ := st_cells kb5
  have KB5 := Lib.hid kb5
  clear kb5 ho5 hg5 KE4 KB4 R4 p4_0 p4_1 p4_2 p4_3 p4_4 p4_5 p4_6 p4_7 p4_8 p4_9
  go_wp2_with fail
  refine (mkaB lo _ S.out _ (k + S.data.length + 2 * S.ret.length + S.mem.length + S.cells.length + S.vars.length) (by push_cast; omega) (by omega) (by omega) _ R5.out.o).mono ?_
  rintro e w6 ⟨rfl, ho6, hg6⟩
  have R6 : Hid (Rows7 w6 lo S (.slice A0 S.data.length a0) (.slice A1 S.ret.length a1) (.slice A2 S.mem.length a2) (.slice A3 S.cells.length a3) (.slice A4 S.vars.length a4) (.slice A5 S.out.length a5) (.slice A6 S.inp.length a6) (marksI (k) S.data.length) (marksS (k + S.data.length) S.ret.length) (marksI (k + S.data.length + 2 * S.ret.length) S.mem.length) (marksN (k + S.data.length + 2 * S.ret.length + S.mem.length) S.cells.length) (marksL (k + S.data.length + 2 * S.ret.length + S.mem.length + S.cells.length) S.vars.length) (marksB (k + S.data.length + 2 * S.ret.length + S.mem.length + S.cells.length + S.vars.length) S.out.length) S.inp) := Lib.hid ⟨R5.out.d.kept hg6 (rows_ne R5.out.d R5.out.o (by decide)), R5.out.r.kept hg6 (rows_ne R5.out.r R5.out.o (by decide)), R5.out.m.kept hg6 (rows_ne R5.out.m R5.out.o (by decide)), R5.out.c.kept hg6 (rows_ne R5.out.c R5.out.o (by decide)), R5.out.v.kept hg6 (rows_ne R5.out.v R5.out.o (by decide)), ho6, R5.out.i.kept hg6 (apart_sym OI.out)⟩
  have kb6 := KB5.out.grown hg6 (box_neG KB5.out R5.out.o (by decide))
  have KE6 : Hid (Kept lo hi w w6) := Lib.hid (KE5.out.trans (Kept.of_grown hg6 fun k hk => ⟨LO5.out k hk, HI5.out k hk⟩))
  obtain ⟨p6_0, p6_1, p6_2, p6_3, p6_4, p6_5, p6_6, p6_7, p6_8, p6_9⟩ := st_cells kb6
  have KB6 := Lib.hid kb6
  clear kb6 ho6 hg6 KE5 KB5 R5 p5_0 p5_1 p5_2 p5_3 p5_4 p5_5 p5_6 p5_7 p5_8 p5_9
  go_wp2_with fail
  refine (mktB lo _ S.inp _ (k + S.data.length + 2 * S.ret.length + S.mem.length + S.cells.length + S.vars.length + S.out.length) (by push_cast; omega) (by omega) (by omega) _ R6.out.i).mono ?_
  rintro e w7 ⟨rfl, ho7, hg7⟩
  have R7 : Hid (Rows7 w7 lo S (.slice A0 S.data.length a0) (.slice A1 S.ret.length a1) (.slice A2 S.mem.length a2) (.slice A3 S.cells.length a3) (.slice A4 S.vars.length a4) (.slice A5 S.out.length a5) (.slice A6 S.inp.length a6) (marksI (k) S.data.length) (marksS (k + S.data.length) S.ret.length) (marksI (k + S.data.length + 2 * S.ret.length) S.mem.length) (marksN (k + S.data.length + 2 * S.ret.length + S.mem.length) S.cells.length) (marksL (k + S.data.length + 2 * S.ret.length + S.mem.length + S.cells.length) S.vars.length) (marksB (k + S.data.length + 2 * S.ret.length + S.mem.length + S.cells.length + S.vars.length) S.out.length) (marksB (k + S.data.length + 2 * S.ret.length + S.mem.length + S.cells.length + S.vars.length + S.out.length) S.inp.length)) := Lib.hid ⟨R6.out.d.kept hg7 (ne_tail R6.out.d R6.out.i (by decide)), R6.out.r.kept hg7 (ne_tail R6.out.r R6.out.i (by decide)), R6.out.m.kept hg7 (ne_tail R6.out.m R6.out.i (by decide)), R6.out.c.kept hg7 (ne_tail R6.out.c R6.out.i (by decide)), R6.out.v.kept hg7 (ne_tail R6.out.v R6.out.i (by decide)), R6.out.o.kept hg7 (OI.out), ho7⟩
  have kb7 := KB6.out.grown hg7 (box_neT KB6.out R6.out.i (by decide))
  have KE7 : Hid (Kept lo hi w w7) := Lib.hid (KE6.out.trans (Kept.of_grown hg7 fun k hk => ⟨LO6.out k hk, HI6.out k hk⟩))
  obtain ⟨p7_0, p7_1, p7_2, p7_3, p7_4, p7_5, p7_6, p7_7, p7_8, p7_9⟩ := st_cells kb7
  have KB7 := Lib.hid kb7
  clear kb7 ho7 hg7 KE6 KB6 R6 p6_0 p6_1 p6_2 p6_3 p6_4 p6_5 p6_6 p6_7 p6_8 p6_9
  go_wp2_with fail
  go_ret
  refine ⟨ret_i64 (by unfold totSt; push_cast; omega), ?_, KE7.out⟩
  exact Rows7.st R7.out TOP.out DM.out OI.out
theorem markst1 (lo hi : Nat) (d r m c v o i : Value) (S : S8) (hs : totSt S ≤ 4000000) (w : World) (ho : OwnSt w lo hi d r m c v o i S) (hw : hi ≤ w.heap.size) :
    Calls Try.prog 39 #[.agg #[d, r, .int .i32 S.a, m, c, v, o, i, .int .i64 S.fault, .int .i64 S.fuel], .int .i64 1] w fun e w' => e = .returned (.int .i64 (1 + (totSt S : Int))) ∧ OwnSt w' lo hi d r m c v o i (markSt S 1) ∧ Kept lo hi w w' := markst_any lo hi d r m c v o i S 1 (by omega) hs w ho hw
end Go.Proofs.Ytlkkobffgbjkpaa
