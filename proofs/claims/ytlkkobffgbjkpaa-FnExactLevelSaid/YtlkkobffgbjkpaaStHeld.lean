/-
  Marks that lie in a state.
-/
import Derived.Test.YtlkkobffgbjkpaaStGen
namespace Go.Proofs.Ytlkkobffgbjkpaa
open Go.RowKit Go

set_option maxRecDepth 100000 in
set_option maxHeartbeats 4000000 in
theorem heldst_z (d r m c v o i : Value) (S : S8) (k : Nat) (z0 z1 z2 z3 z4 z5 z6 z7 : Int) (e0 : z0 = (k : Int)) (e1 : z0 + (S.data.length : Int) = z1) (e2 : z1 + 2 * (S.ret.length : Int) = z2) (e3 : z2 + (S.mem.length : Int) = z3) (e4 : z3 + (S.cells.length : Int) = z4) (e5 : z4 + (S.vars.length : Int) = z5) (e6 : z5 + (S.out.length : Int) = z6) (e7 : z6 + (S.inp.length : Int) = z7) (h1 : k ≤ 100000) (hs : totSt S ≤ 4000000) (w : World) (hr : RdSt w d r m c v o i (markSt S k)) :
    Calls Try.prog 40 #[.agg #[d, r, .int .i32 S.a, m, c, v, o, i, .int .i64 S.fault, .int .i64 S.fuel], .int .i64 z0] w fun e w' => e = .returned (.int .i64 z7) ∧ Below w.heap.size w w' := by
  unfold totSt at hs
  have l0 : (markSt S k).data.length = S.data.length := marksI_len _ _
  have l1 : (markSt S k).ret.length = S.ret.length := marksS_len _ _
  have l2 : (markSt S k).mem.length = S.mem.length := marksI_len _ _
  have l3 : (markSt S k).cells.length = S.cells.length := marksN_len _ _
  have l4 : (markSt S k).vars.length = S.vars.length := marksL_len _ _
  have l5 : (markSt S k).out.length = S.out.length := marksB_len _ _
  have l6 : (markSt S k).inp.length = S.inp.length := marksB_len _ _
  have hform := hr.form
  rw [l0, l1, l2, l3, l4, l5, l6] at hform
  obtain ⟨⟨A0, a0, rfl⟩, ⟨A1, a1, rfl⟩, ⟨A2, a2, rfl⟩, ⟨A3, a3, rfl⟩, ⟨A4, a4, rfl⟩, ⟨A5, a5, rfl⟩, ⟨A6, a6, rfl⟩⟩ := hform
  have HR := Lib.hid (fun W (h : Below w.heap.size w W) => hr.below h)
  have g1 : ¬ (z1 < 0) := by omega
  have g2 : ¬ (z2 < 0) := by omega
  have g3 : ¬ (z3 < 0) := by omega
  have g4 : ¬ (z4 < 0) := by omega
  have g5 : ¬ (z5 < 0) := by omega
  have g6 : ¬ (z6 < 0) := by omega
  have g7 : ¬ (z7 < 0) := by omega
  have Y0 : Hid (z0 = ((k : Nat) : Int)) := Lib.hid (by push_cast; omega)
  have Y1 : Hid (z1 = ((k + S.data.length : Nat) : Int)) := Lib.hid (by push_cast; omega)
  have Y2 : Hid (z2 = ((k + S.data.length + 2 * S.ret.length : Nat) : Int)) := Lib.hid (by push_cast; omega)
  have Y3 : Hid (z3 = ((k + S.data.length + 2 * S.ret.length + S.mem.length : Nat) : Int)) := Lib.hid (by push_cast; omega)
  have Y4 : Hid (z4 = ((k + S.data.length + 2 * S.ret.length + S.mem.length + S.cells.length : Nat) : Int)) := Lib.hid (by push_cast; omega)
  have Y5 : Hid (z5 = ((k + S.data.length + 2 * S.ret.length + S.mem.length + S.cells.length + S.vars.length : Nat) : Int)) := Lib.hid (by push_cast; omega)
  have Y6 : Hid (z6 = ((k + S.data.length + 2 * S.ret.length + S.mem.length + S.cells.length + S.vars.length + S.out.length : Nat) : Int)) := Lib.hid (by push_cast; omega)
  have B0 : Hid (k ≤ 4194304) := Lib.hid (by omega)
  have N0 : Hid (S.data.length ≤ 4194304) := Lib.hid (by omega)
  have B1 : Hid (k + S.data.length ≤ 4194304) := Lib.hid (by omega)
  have N1 : Hid (S.ret.length ≤ 4194304) := Lib.hid (by omega)
  have B2 : Hid (k + S.data.length + 2 * S.ret.length ≤ 4194304) := Lib.hid (by omega)
  have N2 : Hid (S.mem.length ≤ 4194304) := Lib.hid (by omega)
  have B3 : Hid (k + S.data.length + 2 * S.ret.length + S.mem.length ≤ 4194304) := Lib.hid (by omega)
  have N3 : Hid (S.cells.length ≤ 4194304) := Lib.hid (by omega)
  have B4 : Hid (k + S.data.length + 2 * S.ret.length + S.mem.length + S.cells.length ≤ 4194304) := Lib.hid (by omega)
  have N4 : Hid (S.vars.length ≤ 4194304) := Lib.hid (by omega)
  have B5 : Hid (k + S.data.length + 2 * S.ret.length + S.mem.length + S.cells.length + S.vars.length ≤ 4194304) := Lib.hid (by omega)
  have N5 : Hid (S.out.length ≤ 4194304) := Lib.hid (by omega)
  have B6 : Hid (k + S.data.length + 2 * S.ret.length + S.mem.length + S.cells.length + S.vars.length + S.out.length ≤ 4194304) := Lib.hid (by omega)
  have N6 : Hid (S.inp.length ≤ 4194304) := Lib.hid (by omega)
  have E1 := Lib.hid e1
  have E2 := Lib.hid e2
  have E3 := Lib.hid e3
  have E4 := Lib.hid e4
  have E5 := Lib.hid e5
  have E6 := Lib.hid e6
  have E7 := Lib.hid e7
  clear hr l0 l1 l2 l3 l4 l5 l6 e0 e1 e2 e3 e4 e5 e6 e7 hs h1
  go_enter Try.func40, Try.ntmps40
  go_wp2_with fail
  refine (hdzI _ S.data.length z0 z1 (k) Y0.out E1.out B0.out N0.out _ (HR.out _ (below_alloc w _)).d).mono ?_
  rintro e w1 ⟨rfl, hb1⟩
  obtain ⟨kb1, hB1, hz1⟩ := boxes1 hb1
  obtain ⟨p1_0, p1_1, p1_2, p1_3, p1_4, p1_5, p1_6, p1_7, p1_8, p1_9⟩ := st_cells kb1
  have KB1 := Lib.hid kb1
  have BE1 : Hid (Below w.heap.size w w1) := Lib.hid hB1
  clear kb1 hb1 hB1 hz1
  go_wp2_with fail
  refine (hdzS _ S.ret.length z1 z2 (k + S.data.length) Y1.out E2.out B1.out N1.out _ (HR.out _ BE1.out).r).mono ?_
  rintro e w2 ⟨rfl, hb2⟩
  have kb2 := KB1.out.below hb2 KB1.out.lt
  have hB2 := BE1.out.trans (hb2.mono BE1.out.size)
  obtain ⟨p2_0, p2_1, p2_2, p2_3, p2_4, p2_5, p2_6, p2_7, p2_8, p2_9⟩ := st_cells kb2
  have KB2 := Lib.hid kb2
  have BE2 : Hid (Below w.heap.size w w2) := Lib.hid hB2
  clear kb2 hb2 hB2 KB1 BE1 p1_0 p1_1 p1_2 p1_3 p1_4 p1_5 p1_6 p1_7 p1_8 p1_9
  go_wp2_with fail
  refine (hdzI _ S.mem.length z2 z3 (k + S.data.length + 2 * S.ret.length) Y2.out E3.out B2.out N2.out _ (HR.out _ BE2.out).m).mono ?_
  rintro e w3 ⟨rfl, hb3⟩
  have kb3 := KB2.out.below hb3 KB2.out.lt
  have hB3 := BE2.out.trans (hb3.mono BE2.out.size)
  obtain ⟨p3_0, p3_1, p3_2, p3_3, p3_4, p3_5, p3_6, p3_7, p3_8, p3_9⟩ := st_cells kb3
  have KB3 := Lib.hid kb3
  have BE3 : Hid (Below w.heap.size w w3) := Lib.hid hB3
  clear kb3 hb3 hB3 KB2 BE2 p2_0 p2_1 p2_2 p2_3 p2_4 p2_5 p2_6 p2_7 p2_8 p2_9
  go_wp2_with fail
  refine (hdzN _ S.cells.length z3 z4 (k + S.data.length + 2 * S.ret.length + S.mem.length) Y3.out E4.out B3.out N3.out _ (HR.out _ BE3.out).c).mono ?_
  rintro e w4 ⟨rfl, hb4⟩
  have kb4 := KB3.out.below hb4 KB3.out.lt
  have hB4 := BE3.out.trans (hb4.mono BE3.out.size)
  obtain ⟨p4_0, p4_1, p4_2, p4_3, p4_4, p4_5, p4_6, p4_7, p4_8, p4_9⟩ := st_cells kb4
  have KB4 := Lib.hid kb4
  have BE4 : Hid (Below w.heap.size w w4) := Lib.hid hB4
  clear kb4 hb4 hB4 KB3 BE3 p3_0 p3_1 p3_2 p3_3 p3_4 p3_5 p3_6 p3_7 p3_8 p3_9
  go_wp2_with fail
  refine (hdzL _ S.vars.length z4 z5 (k + S.data.length + 2 * S.ret.length + S.mem.length + S.cells.length) Y4.out E5.out B4.out N4.out _ (HR.out _ BE4.out).v).mono ?_
  rintro e w5 ⟨rfl, hb5⟩
  have kb5 := KB4.out.below hb5 KB4.out.lt
  have hB5 := BE4.out.trans (hb5.mono BE4.out.size)
  obtain ⟨p5_0, p5_1, p5_2, p5_3, p5_4, p5_5, p5_6, p5_7, p5_8, p5_9⟩ := st_cells kb5
  have KB5 := Lib.hid kb5
  have BE5 : Hid (Below w.heap.size w w5) := Lib.hid hB5
  clear kb5 hb5 hB5 KB4 BE4 p4_0 p4_1 p4_2 p4_3 p4_4 p4_5 p4_6 p4_7 p4_8 p4_9
  go_wp2_with fail
  refine (hdzB _ S.out.length z5 z6 (k + S.data.length + 2 * S.ret.length + S.mem.length + S.cells.length + S.vars.length) Y5.out E6.out B5.out N5.out _ (HR.out _ BE5.out).o).mono ?_
  rintro e w6 ⟨rfl, hb6⟩
  have kb6 := KB5.out.below hb6 KB5.out.lt
  have hB6 := BE5.out.trans (hb6.mono BE5.out.size)
  obtain ⟨p6_0, p6_1, p6_2, p6_3, p6_4, p6_5, p6_6, p6_7, p6_8, p6_9⟩ := st_cells kb6
  have KB6 := Lib.hid kb6
  have BE6 : Hid (Below w.heap.size w w6) := Lib.hid hB6
  clear kb6 hb6 hB6 KB5 BE5 p5_0 p5_1 p5_2 p5_3 p5_4 p5_5 p5_6 p5_7 p5_8 p5_9
  go_wp2_with fail
  refine (hdzB _ S.inp.length z6 z7 (k + S.data.length + 2 * S.ret.length + S.mem.length + S.cells.length + S.vars.length + S.out.length) Y6.out E7.out B6.out N6.out _ (HR.out _ BE6.out).i).mono ?_
  rintro e w7 ⟨rfl, hb7⟩
  have kb7 := KB6.out.below hb7 KB6.out.lt
  have hB7 := BE6.out.trans (hb7.mono BE6.out.size)
  obtain ⟨p7_0, p7_1, p7_2, p7_3, p7_4, p7_5, p7_6, p7_7, p7_8, p7_9⟩ := st_cells kb7
  have KB7 := Lib.hid kb7
  have BE7 : Hid (Below w.heap.size w w7) := Lib.hid hB7
  clear kb7 hb7 hB7 KB6 BE6 p6_0 p6_1 p6_2 p6_3 p6_4 p6_5 p6_6 p6_7 p6_8 p6_9
  go_wp2_with fail
  go_ret
  exact ⟨rfl, BE7.out⟩
theorem heldst_any (d r m c v o i : Value) (S : S8) (k : Nat) (h1 : k ≤ 100000) (hs : totSt S ≤ 4000000) (w : World) (hr : RdSt w d r m c v o i (markSt S k)) :
    Calls Try.prog 40 #[.agg #[d, r, .int .i32 S.a, m, c, v, o, i, .int .i64 S.fault, .int .i64 S.fuel], .int .i64 k] w fun e w' => e = .returned (.int .i64 ((k : Int) + (totSt S : Int))) ∧ Below w.heap.size w w' :=
  (heldst_z d r m c v o i S k _ _ _ _ _ _ _ _ rfl rfl rfl rfl rfl rfl rfl rfl h1 hs w hr).mono fun e w' h => ⟨h.1.trans (ret_i64 (by unfold totSt; push_cast; omega)), h.2⟩
theorem heldst1 (d r m c v o i : Value) (S : S8) (hs : totSt S ≤ 4000000) (w : World) (hr : RdSt w d r m c v o i (markSt S 1)) :
    Calls Try.prog 40 #[.agg #[d, r, .int .i32 S.a, m, c, v, o, i, .int .i64 S.fault, .int .i64 S.fuel], .int .i64 1] w fun e w' => e = .returned (.int .i64 (1 + (totSt S : Int))) ∧ Below w.heap.size w w' := heldst_any d r m c v o i S 1 (by omega) hs w hr
end Go.Proofs.Ytlkkobffgbjkpaa
