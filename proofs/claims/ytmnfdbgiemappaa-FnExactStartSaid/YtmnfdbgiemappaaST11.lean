/-
  impl.StOk answers whether a state is right.
-/
import Derived.Test.YtmnfdbgiemappaaST10
namespace Go.Proofs.Ytmnfdbgiemappaa
open Go.RowKit Go

set_option maxRecDepth 100000 in
set_option maxHeartbeats 8000000 in
theorem stok_0 (d r m c v o i : Value) (S : S8) (w : World) (hr : RdSt w d r m c v o i S) (t0 : ¬ (S.data.length ≤ 16)) :
    Calls Try.prog 56 #[.agg #[d, r, .int .i32 S.a, m, c, v, o, i, .int .i64 S.fault, .int .i64 S.fuel]] w fun e w' => e = .returned (.bool false) ∧ Below w.heap.size w w' := by
  have hform := hr.form
  obtain ⟨⟨A0, a0, rfl⟩, ⟨A1, a1, rfl⟩, ⟨A2, a2, rfl⟩, ⟨A3, a3, rfl⟩, ⟨A4, a4, rfl⟩, ⟨A5, a5, rfl⟩, ⟨A6, a6, rfl⟩⟩ := hform
  have HSL := Lib.hid (fun W (h : Below w.heap.size w W) => impl_slotsok _ S.ret W (hr.below h).r)
  have HVA := Lib.hid (fun W (h : Below w.heap.size w W) => impl_varsok _ _ _ _ _ _ _ S W (hr.below h))
  have HST := Lib.hid (fun W => impl_storeok A3 S.cells.length a3 (by obtain ⟨_, _, _, h, _⟩ := hr.c; exact h) W)
  have g0 : ¬ (S.data.length : Int) ≤ 16 := by omega
  have g0_ : decide ((S.data.length : Int) ≤ 16) = false := by simp; omega
  clear hr t0
  go_enter Try.func56, Try.ntmps56
  go_wp2_with fail
  go_ret
  exact ⟨rfl, (below_alloc w _)⟩
set_option maxRecDepth 100000 in
set_option maxHeartbeats 8000000 in
theorem stok_1 (d r m c v o i : Value) (S : S8) (w : World) (hr : RdSt w d r m c v o i S) (t0 : S.data.length ≤ 16) (t1 : ¬ ((decide (S.ret.length ≤ 24) && kindsB S.ret) = true)) :
    Calls Try.prog 56 #[.agg #[d, r, .int .i32 S.a, m, c, v, o, i, .int .i64 S.fault, .int .i64 S.fuel]] w fun e w' => e = .returned (.bool false) ∧ Below w.heap.size w w' := by
  have hform := hr.form
  obtain ⟨⟨A0, a0, rfl⟩, ⟨A1, a1, rfl⟩, ⟨A2, a2, rfl⟩, ⟨A3, a3, rfl⟩, ⟨A4, a4, rfl⟩, ⟨A5, a5, rfl⟩, ⟨A6, a6, rfl⟩⟩ := hform
  have HSL := Lib.hid (fun W (h : Below w.heap.size w W) => impl_slotsok _ S.ret W (hr.below h).r)
  have HVA := Lib.hid (fun W (h : Below w.heap.size w W) => impl_varsok _ _ _ _ _ _ _ S W (hr.below h))
  have HST := Lib.hid (fun W => impl_storeok A3 S.cells.length a3 (by obtain ⟨_, _, _, h, _⟩ := hr.c; exact h) W)
  have g0 : (S.data.length : Int) ≤ 16 := by omega
  have g0_ : decide ((S.data.length : Int) ≤ 16) = true := by simp; omega
  have c1 : (decide (S.ret.length ≤ 24) && kindsB S.ret) = false := by simpa using t1
  rw [c1] at HSL
  clear hr t0 t1 c1
  go_enter Try.func56, Try.ntmps56
  go_wp2_with fail
  refine (HSL.out _ (below_alloc w _)).mono ?_
  rintro e w1 ⟨rfl, hb1⟩
  obtain ⟨kb1, hB1, hz1⟩ := boxes1 hb1
  obtain ⟨p1_0, p1_1, p1_2, p1_3, p1_4, p1_5, p1_6, p1_7, p1_8, p1_9⟩ := st_cells kb1
  have KB1 := Lib.hid kb1
  have BE1 : Hid (Below w.heap.size w w1) := Lib.hid hB1
  clear kb1 hb1 hB1 hz1
  go_wp2_with fail
  go_ret
  exact ⟨rfl, BE1.out⟩
set_option maxRecDepth 100000 in
set_option maxHeartbeats 8000000 in
theorem stok_2 (d r m c v o i : Value) (S : S8) (w : World) (hr : RdSt w d r m c v o i S) (t0 : S.data.length ≤ 16) (t1 : (decide (S.ret.length ≤ 24) && kindsB S.ret) = true) (t2 : ¬ (S.mem.length = 32)) :
    Calls Try.prog 56 #[.agg #[d, r, .int .i32 S.a, m, c, v, o, i, .int .i64 S.fault, .int .i64 S.fuel]] w fun e w' => e = .returned (.bool false) ∧ Below w.heap.size w w' := by
  have hform := hr.form
  obtain ⟨⟨A0, a0, rfl⟩, ⟨A1, a1, rfl⟩, ⟨A2, a2, rfl⟩, ⟨A3, a3, rfl⟩, ⟨A4, a4, rfl⟩, ⟨A5, a5, rfl⟩, ⟨A6, a6, rfl⟩⟩ := hform
  have HSL := Lib.hid (fun W (h : Below w.heap.size w W) => impl_slotsok _ S.ret W (hr.below h).r)
  have HVA := Lib.hid (fun W (h : Below w.heap.size w W) => impl_varsok _ _ _ _ _ _ _ S W (hr.below h))
  have HST := Lib.hid (fun W => impl_storeok A3 S.cells.length a3 (by obtain ⟨_, _, _, h, _⟩ := hr.c; exact h) W)
  have g0 : (S.data.length : Int) ≤ 16 := by omega
  have g0_ : decide ((S.data.length : Int) ≤ 16) = true := by simp; omega
  have c1 : (decide (S.ret.length ≤ 24) && kindsB S.ret) = true := t1
  rw [c1] at HSL
  have g2 : ((S.mem.length : Int) == 32) = false := by simp; omega
  clear hr t0 t1 t2 c1
  go_enter Try.func56, Try.ntmps56
  go_wp2_with fail
  refine (HSL.out _ (below_alloc w _)).mono ?_
  rintro e w1 ⟨rfl, hb1⟩
  obtain ⟨kb1, hB1, hz1⟩ := boxes1 hb1
  obtain ⟨p1_0, p1_1, p1_2, p1_3, p1_4, p1_5, p1_6, p1_7, p1_8, p1_9⟩ := st_cells kb1
  have KB1 := Lib.hid kb1
  have BE1 : Hid (Below w.heap.size w w1) := Lib.hid hB1
  clear kb1 hb1 hB1 hz1
  go_wp2_with fail
  go_ret
  exact ⟨rfl, BE1.out⟩
set_option maxRecDepth 100000 in
set_option maxHeartbeats 8000000 in
theorem stok_3 (d r m c v o i : Value) (S : S8) (w : World) (hr : RdSt w d r m c v o i S) (t0 : S.data.length ≤ 16) (t1 : (decide (S.ret.length ≤ 24) && kindsB S.ret) = true) (t2 : S.mem.length = 32) (t3 : ¬ (storeB S.cells.length = true)) :
    Calls Try.prog 56 #[.agg #[d, r, .int .i32 S.a, m, c, v, o, i, .int .i64 S.fault, .int .i64 S.fuel]] w fun e w' => e = .returned (.bool false) ∧ Below w.heap.size w w' := by
  have hform := hr.form
  obtain ⟨⟨A0, a0, rfl⟩, ⟨A1, a1, rfl⟩, ⟨A2, a2, rfl⟩, ⟨A3, a3, rfl⟩, ⟨A4, a4, rfl⟩, ⟨A5, a5, rfl⟩, ⟨A6, a6, rfl⟩⟩ := hform
  have HSL := Lib.hid (fun W (h : Below w.heap.size w W) => impl_slotsok _ S.ret W (hr.below h).r)
  have HVA := Lib.hid (fun W (h : Below w.heap.size w W) => impl_varsok _ _ _ _ _ _ _ S W (hr.below h))
  have HST := Lib.hid (fun W => impl_storeok A3 S.cells.length a3 (by obtain ⟨_, _, _, h, _⟩ := hr.c; exact h) W)
  have g0 : (S.data.length : Int) ≤ 16 := by omega
  have g0_ : decide ((S.data.length : Int) ≤ 16) = true := by simp; omega
  have c1 : (decide (S.ret.length ≤ 24) && kindsB S.ret) = true := t1
  rw [c1] at HSL
  have g2 : ((S.mem.length : Int) == 32) = true := by simp; omega
  have c3 : storeB S.cells.length = false := by simpa using t3
  rw [c3] at HST
  clear hr t0 t1 t2 t3 c1 c3
  go_enter Try.func56, Try.ntmps56
  go_wp2_with fail
  refine (HSL.out _ (below_alloc w _)).mono ?_
  rintro e w1 ⟨rfl, hb1⟩
  obtain ⟨kb1, hB1, hz1⟩ := boxes1 hb1
  obtain ⟨p1_0, p1_1, p1_2, p1_3, p1_4, p1_5, p1_6, p1_7, p1_8, p1_9⟩ := st_cells kb1
  have KB1 := Lib.hid kb1
  have BE1 : Hid (Below w.heap.size w w1) := Lib.hid hB1
  clear kb1 hb1 hB1 hz1
  go_wp2_with fail
  refine (HST.out _).mono ?_
  rintro e w2 ⟨rfl, hb2⟩
  have kb2 := KB1.out.below hb2 KB1.out.lt
  have hB2 := BE1.out.trans (hb2.mono BE1.out.size)
  obtain ⟨p2_0, p2_1, p2_2, p2_3, p2_4, p2_5, p2_6, p2_7, p2_8, p2_9⟩ := st_cells kb2
  have KB2 := Lib.hid kb2
  have BE2 : Hid (Below w.heap.size w w2) := Lib.hid hB2
  clear kb2 hb2 hB2 KB1 BE1 p1_0 p1_1 p1_2 p1_3 p1_4 p1_5 p1_6 p1_7 p1_8 p1_9
  go_wp2_with fail
  go_ret
  exact ⟨rfl, BE2.out⟩
set_option maxRecDepth 100000 in
set_option maxHeartbeats 8000000 in
theorem stok_4 (d r m c v o i : Value) (S : S8) (w : World) (hr : RdSt w d r m c v o i S) (t0 : S.data.length ≤ 16) (t1 : (decide (S.ret.length ≤ 24) && kindsB S.ret) = true) (t2 : S.mem.length = 32) (t3 : storeB S.cells.length = true) (t4 : ¬ ((decide (S.vars.length ≤ 20) && varsB S.vars S.cells.length) = true)) :
    Calls Try.prog 56 #[.agg #[d, r, .int .i32 S.a, m, c, v, o, i, .int .i64 S.fault, .int .i64 S.fuel]] w fun e w' => e = .returned (.bool false) ∧ Below w.heap.size w w' := by
  have hform := hr.form
  obtain ⟨⟨A0, a0, rfl⟩, ⟨A1, a1, rfl⟩, ⟨A2, a2, rfl⟩, ⟨A3, a3, rfl⟩, ⟨A4, a4, rfl⟩, ⟨A5, a5, rfl⟩, ⟨A6, a6, rfl⟩⟩ := hform
  have HSL := Lib.hid (fun W (h : Below w.heap.size w W) => impl_slotsok _ S.ret W (hr.below h).r)
  have HVA := Lib.hid (fun W (h : Below w.heap.size w W) => impl_varsok _ _ _ _ _ _ _ S W (hr.below h))
  have HST := Lib.hid (fun W => impl_storeok A3 S.cells.length a3 (by obtain ⟨_, _, _, h, _⟩ := hr.c; exact h) W)
  have g0 : (S.data.length : Int) ≤ 16 := by omega
  have g0_ : decide ((S.data.length : Int) ≤ 16) = true := by simp; omega
  have c1 : (decide (S.ret.length ≤ 24) && kindsB S.ret) = true := t1
  rw [c1] at HSL
  have g2 : ((S.mem.length : Int) == 32) = true := by simp; omega
  have c3 : storeB S.cells.length = true := t3
  rw [c3] at HST
  have c4 : (decide (S.vars.length ≤ 20) && varsB S.vars S.cells.length) = false := by simpa using t4
  rw [c4] at HVA
  clear hr t0 t1 t2 t3 t4 c1 c3 c4
  go_enter Try.func56, Try.ntmps56
  go_wp2_with fail
  refine (HSL.out _ (below_alloc w _)).mono ?_
  rintro e w1 ⟨rfl, hb1⟩
  obtain ⟨kb1, hB1, hz1⟩ := boxes1 hb1
  obtain ⟨p1_0, p1_1, p1_2, p1_3, p1_4, p1_5, p1_6, p1_7, p1_8, p1_9⟩ := st_cells kb1
  have KB1 := Lib.hid kb1
  have BE1 : Hid (Below w.heap.size w w1) := Lib.hid hB1
  clear kb1 hb1 hB1 hz1
  go_wp2_with fail
  refine (HST.out _).mono ?_
  rintro e w2 ⟨rfl, hb2⟩
  have kb2 := KB1.out.below hb2 KB1.out.lt
  have hB2 := BE1.out.trans (hb2.mono BE1.out.size)
  obtain ⟨p2_0, p2_1, p2_2, p2_3, p2_4, p2_5, p2_6, p2_7, p2_8, p2_9⟩ := st_cells kb2
  have KB2 := Lib.hid kb2
  have BE2 : Hid (Below w.heap.size w w2) := Lib.hid hB2
  clear kb2 hb2 hB2 KB1 BE1 p1_0 p1_1 p1_2 p1_3 p1_4 p1_5 p1_6 p1_7 p1_8 p1_9
  go_wp2_with fail
  refine (HVA.out _ BE2.out).mono ?_
  rintro e w3 ⟨rfl, hb3⟩
  have kb3 := KB2.out.below hb3 KB2.out.lt
  have hB3 := BE2.out.trans (hb3.mono BE2.out.size)
  obtain ⟨p3_0, p3_1, p3_2, p3_3, p3_4, p3_5, p3_6, p3_7, p3_8, p3_9⟩ := st_cells kb3
  have KB3 := Lib.hid kb3
  have BE3 : Hid (Below w.heap.size w w3) := Lib.hid hB3
  clear kb3 hb3 hB3 KB2 BE2 p2_0 p2_1 p2_2 p2_3 p2_4 p2_5 p2_6 p2_7 p2_8 p2_9
  go_wp2_with fail
  go_ret
  exact ⟨rfl, BE3.out⟩
set_option maxRecDepth 100000 in
set_option maxHeartbeats 8000000 in
theorem stok_5 (d r m c v o i : Value) (S : S8) (w : World) (hr : RdSt w d r m c v o i S) (t0 : S.data.length ≤ 16) (t1 : (decide (S.ret.length ≤ 24) && kindsB S.ret) = true) (t2 : S.mem.length = 32) (t3 : storeB S.cells.length = true) (t4 : (decide (S.vars.length ≤ 20) && varsB S.vars S.cells.length) = true) (t5 : ¬ (S.out.length ≤ 400)) :
    Calls Try.prog 56 #[.agg #[d, r, .int .i32 S.a, m, c, v, o, i, .int .i64 S.fault, .int .i64 S.fuel]] w fun e w' => e = .returned (.bool false) ∧ Below w.heap.size w w' := by
  have hform := hr.form
  obtain ⟨⟨A0, a0, rfl⟩, ⟨A1, a1, rfl⟩, ⟨A2, a2, rfl⟩, ⟨A3, a3, rfl⟩, ⟨A4, a4, rfl⟩, ⟨A5, a5, rfl⟩, ⟨A6, a6, rfl⟩⟩ := hform
  have HSL := Lib.hid (fun W (h : Below w.heap.size w W) => impl_slotsok _ S.ret W (hr.below h).r)
  have HVA := Lib.hid (fun W (h : Below w.heap.size w W) => impl_varsok _ _ _ _ _ _ _ S W (hr.below h))
  have HST := Lib.hid (fun W => impl_storeok A3 S.cells.length a3 (by obtain ⟨_, _, _, h, _⟩ := hr.c; exact h) W)
  have g0 : (S.data.length : Int) ≤ 16 := by omega
  have g0_ : decide ((S.data.length : Int) ≤ 16) = true := by simp; omega
  have c1 : (decide (S.ret.length ≤ 24) && kindsB S.ret) = true := t1
  rw [c1] at HSL
  have g2 : ((S.mem.length : Int) == 32) = true := by simp; omega
  have c3 : storeB S.cells.length = true := t3
  rw [c3] at HST
  have c4 : (decide (S.vars.length ≤ 20) && varsB S.vars S.cells.length) = true := t4
  rw [c4] at HVA
  have g5 : ¬ (S.out.length : Int) ≤ 400 := by omega
  have g5_ : decide ((S.out.length : Int) ≤ 400) = false := by simp; omega
  clear hr t0 t1 t2 t3 t4 t5 c1 c3 c4
  go_enter Try.func56, Try.ntmps56
  go_wp2_with fail
  refine (HSL.out _ (below_alloc w _)).mono ?_
  rintro e w1 ⟨rfl, hb1⟩
  obtain ⟨kb1, hB1, hz1⟩ := boxes1 hb1
  obtain ⟨p1_0, p1_1, p1_2, p1_3, p1_4, p1_5, p1_6, p1_7, p1_8, p1_9⟩ := st_cells kb1
  have KB1 := Lib.hid kb1
  have BE1 : Hid (Below w.heap.size w w1) := Lib.hid hB1
  clear kb1 hb1 hB1 hz1
  go_wp2_with fail
  refine (HST.out _).mono ?_
  rintro e w2 ⟨rfl, hb2⟩
  have kb2 := KB1.out.below hb2 KB1.out.lt
  have hB2 := BE1.out.trans (hb2.mono BE1.out.size)
  obtain ⟨p2_0, p2_1, p2_2, p2_3, p2_4, p2_5, p2_6, p2_7, p2_8, p2_9⟩ := st_cells kb2
  have KB2 := Lib.hid kb2
  have BE2 : Hid (Below w.heap.size w w2) := Lib.hid hB2
  clear kb2 hb2 hB2 KB1 BE1 p1_0 p1_1 p1_2 p1_3 p1_4 p1_5 p1_6 p1_7 p1_8 p1_9
  go_wp2_with fail
  refine (HVA.out _ BE2.out).mono ?_
  rintro e w3 ⟨rfl, hb3⟩
  have kb3 := KB2.out.below hb3 KB2.out.lt
  have hB3 := BE2.out.trans (hb3.mono BE2.out.size)
  obtain ⟨p3_0, p3_1, p3_2, p3_3, p3_4, p3_5, p3_6, p3_7, p3_8, p3_9⟩ := st_cells kb3
  have KB3 := Lib.hid kb3
  have BE3 : Hid (Below w.heap.size w w3) := Lib.hid hB3
  clear kb3 hb3 hB3 KB2 BE2 p2_0 p2_1 p2_2 p2_3 p2_4 p2_5 p2_6 p2_7 p2_8 p2_9
  go_wp2_with fail
  go_ret
  exact ⟨rfl, BE3.out⟩
set_option maxRecDepth 100000 in
set_option maxHeartbeats 8000000 in
theorem stok_6 (d r m c v o i : Value) (S : S8) (w : World) (hr : RdSt w d r m c v o i S) (t0 : S.data.length ≤ 16) (t1 : (decide (S.ret.length ≤ 24) && kindsB S.ret) = true) (t2 : S.mem.length = 32) (t3 : storeB S.cells.length = true) (t4 : (decide (S.vars.length ≤ 20) && varsB S.vars S.cells.length) = true) (t5 : S.out.length ≤ 400) (t6 : ¬ (S.inp.length ≤ 100)) :
    Calls Try.prog 56 #[.agg #[d, r, .int .i32 S.a, m, c, v, o, i, .int .i64 S.fault, .int .i64 S.fuel]] w fun e w' => e = .returned (.bool false) ∧ Below w.heap.size w w' := by
  have hform := hr.form
  obtain ⟨⟨A0, a0, rfl⟩, ⟨A1, a1, rfl⟩, ⟨A2, a2, rfl⟩, ⟨A3, a3, rfl⟩, ⟨A4, a4, rfl⟩, ⟨A5, a5, rfl⟩, ⟨A6, a6, rfl⟩⟩ := hform
  have HSL := Lib.hid (fun W (h : Below w.heap.size w W) => impl_slotsok _ S.ret W (hr.below h).r)
  have HVA := Lib.hid (fun W (h : Below w.heap.size w W) => impl_varsok _ _ _ _ _ _ _ S W (hr.below h))
  have HST := Lib.hid (fun W => impl_storeok A3 S.cells.length a3 (by obtain ⟨_, _, _, h, _⟩ := hr.c; exact h) W)
  have g0 : (S.data.length : Int) ≤ 16 := by omega
  have g0_ : decide ((S.data.length : Int) ≤ 16) = true := by simp; omega
  have c1 : (decide (S.ret.length ≤ 24) && kindsB S.ret) = true := t1
  rw [c1] at HSL
  have g2 : ((S.mem.length : Int) == 32) = true := by simp; omega
  have c3 : storeB S.cells.length = true := t3
  rw [c3] at HST
  have c4 : (decide (S.vars.length ≤ 20) && varsB S.vars S.cells.length) = true := t4
  rw [c4] at HVA
  have g5 : (S.out.length : Int) ≤ 400 := by omega
  have g5_ : decide ((S.out.length : Int) ≤ 400) = true := by simp; omega
  have g6 : ¬ (S.inp.length : Int) ≤ 100 := by omega
  have g6_ : decide ((S.inp.length : Int) ≤ 100) = false := by simp; omega
  clear hr t0 t1 t2 t3 t4 t5 t6 c1 c3 c4
  go_enter Try.func56, Try.ntmps56
  go_wp2_with fail
  refine (HSL.out _ (below_alloc w _)).mono ?_
  rintro e w1 ⟨rfl, hb1⟩
  obtain ⟨kb1, hB1, hz1⟩ := boxes1 hb1
  obtain ⟨p1_0, p1_1, p1_2, p1_3, p1_4, p1_5, p1_6, p1_7, p1_8, p1_9⟩ := st_cells kb1
  have KB1 := Lib.hid kb1
  have BE1 : Hid (Below w.heap.size w w1) := Lib.hid hB1
  clear kb1 hb1 hB1 hz1
  go_wp2_with fail
  refine (HST.out _).mono ?_
  rintro e w2 ⟨rfl, hb2⟩
  have kb2 := KB1.out.below hb2 KB1.out.lt
  have hB2 := BE1.out.trans (hb2.mono BE1.out.size)
  obtain ⟨p2_0, p2_1, p2_2, p2_3, p2_4, p2_5, p2_6, p2_7, p2_8, p2_9⟩ := st_cells kb2
  have KB2 := Lib.hid kb2
  have BE2 : Hid (Below w.heap.size w w2) := Lib.hid hB2
  clear kb2 hb2 hB2 KB1 BE1 p1_0 p1_1 p1_2 p1_3 p1_4 p1_5 p1_6 p1_7 p1_8 p1_9
  go_wp2_with fail
  refine (HVA.out _ BE2.out).mono ?_
  rintro e w3 ⟨rfl, hb3⟩
  have kb3 := KB2.out.below hb3 KB2.out.lt
  have hB3 := BE2.out.trans (hb3.mono BE2.out.size)
  obtain ⟨p3_0, p3_1, p3_2, p3_3, p3_4, p3_5, p3_6, p3_7, p3_8, p3_9⟩ := st_cells kb3
  have KB3 := Lib.hid kb3
  have BE3 : Hid (Below w.heap.size w w3) := Lib.hid hB3
  clear kb3 hb3 hB3 KB2 BE2 p2_0 p2_1 p2_2 p2_3 p2_4 p2_5 p2_6 p2_7 p2_8 p2_9
  go_wp2_with fail
  go_ret
  exact ⟨rfl, BE3.out⟩
set_option maxRecDepth 100000 in
set_option maxHeartbeats 8000000 in
theorem stok_7 (d r m c v o i : Value) (S : S8) (w : World) (hr : RdSt w d r m c v o i S) (t0 : S.data.length ≤ 16) (t1 : (decide (S.ret.length ≤ 24) && kindsB S.ret) = true) (t2 : S.mem.length = 32) (t3 : storeB S.cells.length = true) (t4 : (decide (S.vars.length ≤ 20) && varsB S.vars S.cells.length) = true) (t5 : S.out.length ≤ 400) (t6 : S.inp.length ≤ 100) (t7 : ¬ (0 ≤ S.fault)) :
    Calls Try.prog 56 #[.agg #[d, r, .int .i32 S.a, m, c, v, o, i, .int .i64 S.fault, .int .i64 S.fuel]] w fun e w' => e = .returned (.bool false) ∧ Below w.heap.size w w' := by
  have hform := hr.form
  obtain ⟨⟨A0, a0, rfl⟩, ⟨A1, a1, rfl⟩, ⟨A2, a2, rfl⟩, ⟨A3, a3, rfl⟩, ⟨A4, a4, rfl⟩, ⟨A5, a5, rfl⟩, ⟨A6, a6, rfl⟩⟩ := hform
  have HSL := Lib.hid (fun W (h : Below w.heap.size w W) => impl_slotsok _ S.ret W (hr.below h).r)
  have HVA := Lib.hid (fun W (h : Below w.heap.size w W) => impl_varsok _ _ _ _ _ _ _ S W (hr.below h))
  have HST := Lib.hid (fun W => impl_storeok A3 S.cells.length a3 (by obtain ⟨_, _, _, h, _⟩ := hr.c; exact h) W)
  have g0 : (S.data.length : Int) ≤ 16 := by omega
  have g0_ : decide ((S.data.length : Int) ≤ 16) = true := by simp; omega
  have c1 : (decide (S.ret.length ≤ 24) && kindsB S.ret) = true := t1
  rw [c1] at HSL
  have g2 : ((S.mem.length : Int) == 32) = true := by simp; omega
  have c3 : storeB S.cells.length = true := t3
  rw [c3] at HST
  have c4 : (decide (S.vars.length ≤ 20) && varsB S.vars S.cells.length) = true := t4
  rw [c4] at HVA
  have g5 : (S.out.length : Int) ≤ 400 := by omega
  have g5_ : decide ((S.out.length : Int) ≤ 400) = true := by simp; omega
  have g6 : (S.inp.length : Int) ≤ 100 := by omega
  have g6_ : decide ((S.inp.length : Int) ≤ 100) = true := by simp; omega
  have g7 : decide (0 ≤ S.fault) = false := by simp; omega
  clear hr t0 t1 t2 t3 t4 t5 t6 t7 c1 c3 c4
  go_enter Try.func56, Try.ntmps56
  go_wp2_with fail
  refine (HSL.out _ (below_alloc w _)).mono ?_
  rintro e w1 ⟨rfl, hb1⟩
  obtain ⟨kb1, hB1, hz1⟩ := boxes1 hb1
  obtain ⟨p1_0, p1_1, p1_2, p1_3, p1_4, p1_5, p1_6, p1_7, p1_8, p1_9⟩ := st_cells kb1
  have KB1 := Lib.hid kb1
  have BE1 : Hid (Below w.heap.size w w1) := Lib.hid hB1
  clear kb1 hb1 hB1 hz1
  go_wp2_with fail
  refine (HST.out _).mono ?_
  rintro e w2 ⟨rfl, hb2⟩
  have kb2 := KB1.out.below hb2 KB1.out.lt
  have hB2 := BE1.out.trans (hb2.mono BE1.out.size)
  obtain ⟨p2_0, p2_1, p2_2, p2_3, p2_4, p2_5, p2_6, p2_7, p2_8, p2_9⟩ := st_cells kb2
  have KB2 := Lib.hid kb2
  have BE2 : Hid (Below w.heap.size w w2) := Lib.hid hB2
  clear kb2 hb2 hB2 KB1 BE1 p1_0 p1_1 p1_2 p1_3 p1_4 p1_5 p1_6 p1_7 p1_8 p1_9
  go_wp2_with fail
  refine (HVA.out _ BE2.out).mono ?_
  rintro e w3 ⟨rfl, hb3⟩
  have kb3 := KB2.out.below hb3 KB2.out.lt
  have hB3 := BE2.out.trans (hb3.mono BE2.out.size)
  obtain ⟨p3_0, p3_1, p3_2, p3_3, p3_4, p3_5, p3_6, p3_7, p3_8, p3_9⟩ := st_cells kb3
  have KB3 := Lib.hid kb3
  have BE3 : Hid (Below w.heap.size w w3) := Lib.hid hB3
  clear kb3 hb3 hB3 KB2 BE2 p2_0 p2_1 p2_2 p2_3 p2_4 p2_5 p2_6 p2_7 p2_8 p2_9
  go_wp2_with fail
  go_ret
  exact ⟨rfl, BE3.out⟩
set_option maxRecDepth 100000 in
set_option maxHeartbeats 8000000 in
theorem stok_8 (d r m c v o i : Value) (S : S8) (w : World) (hr : RdSt w d r m c v o i S) (t0 : S.data.length ≤ 16) (t1 : (decide (S.ret.length ≤ 24) && kindsB S.ret) = true) (t2 : S.mem.length = 32) (t3 : storeB S.cells.length = true) (t4 : (decide (S.vars.length ≤ 20) && varsB S.vars S.cells.length) = true) (t5 : S.out.length ≤ 400) (t6 : S.inp.length ≤ 100) (t7 : 0 ≤ S.fault) (t8 : ¬ (S.fault ≤ 13)) :
    Calls Try.prog 56 #[.agg #[d, r, .int .i32 S.a, m, c, v, o, i, .int .i64 S.fault, .int .i64 S.fuel]] w fun e w' => e = .returned (.bool false) ∧ Below w.heap.size w w' := by
  have hform := hr.form
  obtain ⟨⟨A0, a0, rfl⟩, ⟨A1, a1, rfl⟩, ⟨A2, a2, rfl⟩, ⟨A3, a3, rfl⟩, ⟨A4, a4, rfl⟩, ⟨A5, a5, rfl⟩, ⟨A6, a6, rfl⟩⟩ := hform
  have HSL := Lib.hid (fun W (h : Below w.heap.size w W) => impl_slotsok _ S.ret W (hr.below h).r)
  have HVA := Lib.hid (fun W (h : Below w.heap.size w W) => impl_varsok _ _ _ _ _ _ _ S W (hr.below h))
  have HST := Lib.hid (fun W => impl_storeok A3 S.cells.length a3 (by obtain ⟨_, _, _, h, _⟩ := hr.c; exact h) W)
  have g0 : (S.data.length : Int) ≤ 16 := by omega
  have g0_ : decide ((S.data.length : Int) ≤ 16) = true := by simp; omega
  have c1 : (decide (S.ret.length ≤ 24) && kindsB S.ret) = true := t1
  rw [c1] at HSL
  have g2 : ((S.mem.length : Int) == 32) = true := by simp; omega
  have c3 : storeB S.cells.length = true := t3
  rw [c3] at HST
  have c4 : (decide (S.vars.length ≤ 20) && varsB S.vars S.cells.length) = true := t4
  rw [c4] at HVA
  have g5 : (S.out.length : Int) ≤ 400 := by omega
  have g5_ : decide ((S.out.length : Int) ≤ 400) = true := by simp; omega
  have g6 : (S.inp.length : Int) ≤ 100 := by omega
  have g6_ : decide ((S.inp.length : Int) ≤ 100) = true := by simp; omega
  have g7 : decide (0 ≤ S.fault) = true := by simp; omega
  have g8 : decide (S.fault ≤ 13) = false := by simp; omega
  clear hr t0 t1 t2 t3 t4 t5 t6 t7 t8 c1 c3 c4
  go_enter Try.func56, Try.ntmps56
  go_wp2_with fail
  refine (HSL.out _ (below_alloc w _)).mono ?_
  rintro e w1 ⟨rfl, hb1⟩
  obtain ⟨kb1, hB1, hz1⟩ := boxes1 hb1
  obtain ⟨p1_0, p1_1, p1_2, p1_3, p1_4, p1_5, p1_6, p1_7, p1_8, p1_9⟩ := st_cells kb1
  have KB1 := Lib.hid kb1
  have BE1 : Hid (Below w.heap.size w w1) := Lib.hid hB1
  clear kb1 hb1 hB1 hz1
  go_wp2_with fail
  refine (HST.out _).mono ?_
  rintro e w2 ⟨rfl, hb2⟩
  have kb2 := KB1.out.below hb2 KB1.out.lt
  have hB2 := BE1.out.trans (hb2.mono BE1.out.size)
  obtain ⟨p2_0, p2_1, p2_2, p2_3, p2_4, p2_5, p2_6, p2_7, p2_8, p2_9⟩ := st_cells kb2
  have KB2 := Lib.hid kb2
  have BE2 : Hid (Below w.heap.size w w2) := Lib.hid hB2
  clear kb2 hb2 hB2 KB1 BE1 p1_0 p1_1 p1_2 p1_3 p1_4 p1_5 p1_6 p1_7 p1_8 p1_9
  go_wp2_with fail
  refine (HVA.out _ BE2.out).mono ?_
  rintro e w3 ⟨rfl, hb3⟩
  have kb3 := KB2.out.below hb3 KB2.out.lt
  have hB3 := BE2.out.trans (hb3.mono BE2.out.size)
  obtain ⟨p3_0, p3_1, p3_2, p3_3, p3_4, p3_5, p3_6, p3_7, p3_8, p3_9⟩ := st_cells kb3
  have KB3 := Lib.hid kb3
  have BE3 : Hid (Below w.heap.size w w3) := Lib.hid hB3
  clear kb3 hb3 hB3 KB2 BE2 p2_0 p2_1 p2_2 p2_3 p2_4 p2_5 p2_6 p2_7 p2_8 p2_9
  go_wp2_with fail
  go_ret
  exact ⟨rfl, BE3.out⟩
set_option maxRecDepth 100000 in
set_option maxHeartbeats 8000000 in
theorem stok_9 (d r m c v o i : Value) (S : S8) (w : World) (hr : RdSt w d r m c v o i S) (t0 : S.data.length ≤ 16) (t1 : (decide (S.ret.length ≤ 24) && kindsB S.ret) = true) (t2 : S.mem.length = 32) (t3 : storeB S.cells.length = true) (t4 : (decide (S.vars.length ≤ 20) && varsB S.vars S.cells.length) = true) (t5 : S.out.length ≤ 400) (t6 : S.inp.length ≤ 100) (t7 : 0 ≤ S.fault) (t8 : S.fault ≤ 13) (t9 : ¬ (0 ≤ S.fuel)) :
    Calls Try.prog 56 #[.agg #[d, r, .int .i32 S.a, m, c, v, o, i, .int .i64 S.fault, .int .i64 S.fuel]] w fun e w' => e = .returned (.bool false) ∧ Below w.heap.size w w' := by
  have hform := hr.form
  obtain ⟨⟨A0, a0, rfl⟩, ⟨A1, a1, rfl⟩, ⟨A2, a2, rfl⟩, ⟨A3, a3, rfl⟩, ⟨A4, a4, rfl⟩, ⟨A5, a5, rfl⟩, ⟨A6, a6, rfl⟩⟩ := hform
  have HSL := Lib.hid (fun W (h : Below w.heap.size w W) => impl_slotsok _ S.ret W (hr.below h).r)
  have HVA := Lib.hid (fun W (h : Below w.heap.size w W) => impl_varsok _ _ _ _ _ _ _ S W (hr.below h))
  have HST := Lib.hid (fun W => impl_storeok A3 S.cells.length a3 (by obtain ⟨_, _, _, h, _⟩ := hr.c; exact h) W)
  have g0 : (S.data.length : Int) ≤ 16 := by omega
  have g0_ : decide ((S.data.length : Int) ≤ 16) = true := by simp; omega
  have c1 : (decide (S.ret.length ≤ 24) && kindsB S.ret) = true := t1
  rw [c1] at HSL
  have g2 : ((S.mem.length : Int) == 32) = true := by simp; omega
  have c3 : storeB S.cells.length = true := t3
  rw [c3] at HST
  have c4 : (decide (S.vars.length ≤ 20) && varsB S.vars S.cells.length) = true := t4
  rw [c4] at HVA
  have g5 : (S.out.length : Int) ≤ 400 := by omega
  have g5_ : decide ((S.out.length : Int) ≤ 400) = true := by simp; omega
  have g6 : (S.inp.length : Int) ≤ 100 := by omega
  have g6_ : decide ((S.inp.length : Int) ≤ 100) = true := by simp; omega
  have g7 : decide (0 ≤ S.fault) = true := by simp; omega
  have g8 : decide (S.fault ≤ 13) = true := by simp; omega
  have g9 : decide (0 ≤ S.fuel) = false := by simp; omega
  clear hr t0 t1 t2 t3 t4 t5 t6 t7 t8 t9 c1 c3 c4
  go_enter Try.func56, Try.ntmps56
  go_wp2_with fail
  refine (HSL.out _ (below_alloc w _)).mono ?_
  rintro e w1 ⟨rfl, hb1⟩
  obtain ⟨kb1, hB1, hz1⟩ := boxes1 hb1
  obtain ⟨p1_0, p1_1, p1_2, p1_3, p1_4, p1_5, p1_6, p1_7, p1_8, p1_9⟩ := st_cells kb1
  have KB1 := Lib.hid kb1
  have BE1 : Hid (Below w.heap.size w w1) := Lib.hid hB1
  clear kb1 hb1 hB1 hz1
  go_wp2_with fail
  refine (HST.out _).mono ?_
  rintro e w2 ⟨rfl, hb2⟩
  have kb2 := KB1.out.below hb2 KB1.out.lt
  have hB2 := BE1.out.trans (hb2.mono BE1.out.size)
  obtain ⟨p2_0, p2_1, p2_2, p2_3, p2_4, p2_5, p2_6, p2_7, p2_8, p2_9⟩ := st_cells kb2
  have KB2 := Lib.hid kb2
  have BE2 : Hid (Below w.heap.size w w2) := Lib.hid hB2
  clear kb2 hb2 hB2 KB1 BE1 p1_0 p1_1 p1_2 p1_3 p1_4 p1_5 p1_6 p1_7 p1_8 p1_9
  go_wp2_with fail
  refine (HVA.out _ BE2.out).mono ?_
  rintro e w3 ⟨rfl, hb3⟩
  have kb3 := KB2.out.below hb3 KB2.out.lt
  have hB3 := BE2.out.trans (hb3.mono BE2.out.size)
  obtain ⟨p3_0, p3_1, p3_2, p3_3, p3_4, p3_5, p3_6, p3_7, p3_8, p3_9⟩ := st_cells kb3
  have KB3 := Lib.hid kb3
  have BE3 : Hid (Below w.heap.size w w3) := Lib.hid hB3
  clear kb3 hb3 hB3 KB2 BE2 p2_0 p2_1 p2_2 p2_3 p2_4 p2_5 p2_6 p2_7 p2_8 p2_9
  go_wp2_with fail
  go_ret
  exact ⟨rfl, BE3.out⟩
set_option maxRecDepth 100000 in
set_option maxHeartbeats 8000000 in
theorem stok_10 (d r m c v o i : Value) (S : S8) (w : World) (hr : RdSt w d r m c v o i S) (t0 : S.data.length ≤ 16) (t1 : (decide (S.ret.length ≤ 24) && kindsB S.ret) = true) (t2 : S.mem.length = 32) (t3 : storeB S.cells.length = true) (t4 : (decide (S.vars.length ≤ 20) && varsB S.vars S.cells.length) = true) (t5 : S.out.length ≤ 400) (t6 : S.inp.length ≤ 100) (t7 : 0 ≤ S.fault) (t8 : S.fault ≤ 13) (t9 : 0 ≤ S.fuel) (t10 : ¬ (S.fuel ≤ 4000)) :
    Calls Try.prog 56 #[.agg #[d, r, .int .i32 S.a, m, c, v, o, i, .int .i64 S.fault, .int .i64 S.fuel]] w fun e w' => e = .returned (.bool false) ∧ Below w.heap.size w w' := by
  have hform := hr.form
  obtain ⟨⟨A0, a0, rfl⟩, ⟨A1, a1, rfl⟩, ⟨A2, a2, rfl⟩, ⟨A3, a3, rfl⟩, ⟨A4, a4, rfl⟩, ⟨A5, a5, rfl⟩, ⟨A6, a6, rfl⟩⟩ := hform
  have HSL := Lib.hid (fun W (h : Below w.heap.size w W) => impl_slotsok _ S.ret W (hr.below h).r)
  have HVA := Lib.hid (fun W (h : Below w.heap.size w W) => impl_varsok _ _ _ _ _ _ _ S W (hr.below h))
  have HST := Lib.hid (fun W => impl_storeok A3 S.cells.length a3 (by obtain ⟨_, _, _, h, _⟩ := hr.c; exact h) W)
  have g0 : (S.data.length : Int) ≤ 16 := by omega
  have g0_ : decide ((S.data.length : Int) ≤ 16) = true := by simp; omega
  have c1 : (decide (S.ret.length ≤ 24) && kindsB S.ret) = true := t1
  rw [c1] at HSL
  have g2 : ((S.mem.length : Int) == 32) = true := by simp; omega
  have c3 : storeB S.cells.length = true := t3
  rw [c3] at HST
  have c4 : (decide (S.vars.length ≤ 20) && varsB S.vars S.cells.length) = true := t4
  rw [c4] at HVA
  have g5 : (S.out.length : Int) ≤ 400 := by omega
  have g5_ : decide ((S.out.length : Int) ≤ 400) = true := by simp; omega
  have g6 : (S.inp.length : Int) ≤ 100 := by omega
  have g6_ : decide ((S.inp.length : Int) ≤ 100) = true := by simp; omega
  have g7 : decide (0 ≤ S.fault) = true := by simp; omega
  have g8 : decide (S.fault ≤ 13) = true := by simp; omega
  have g9 : decide (0 ≤ S.fuel) = true := by simp; omega
  have g10 : decide (S.fuel ≤ 4000) = false := by simp; omega
  clear hr t0 t1 t2 t3 t4 t5 t6 t7 t8 t9 t10 c1 c3 c4
  go_enter Try.func56, Try.ntmps56
  go_wp2_with fail
  refine (HSL.out _ (below_alloc w _)).mono ?_
  rintro e w1 ⟨rfl, hb1⟩
  obtain ⟨kb1, hB1, hz1⟩ := boxes1 hb1
  obtain ⟨p1_0, p1_1, p1_2, p1_3, p1_4, p1_5, p1_6, p1_7, p1_8, p1_9⟩ := st_cells kb1
  have KB1 := Lib.hid kb1
  have BE1 : Hid (Below w.heap.size w w1) := Lib.hid hB1
  clear kb1 hb1 hB1 hz1
  go_wp2_with fail
  refine (HST.out _).mono ?_
  rintro e w2 ⟨rfl, hb2⟩
  have kb2 := KB1.out.below hb2 KB1.out.lt
  have hB2 := BE1.out.trans (hb2.mono BE1.out.size)
  obtain ⟨p2_0, p2_1, p2_2, p2_3, p2_4, p2_5, p2_6, p2_7, p2_8, p2_9⟩ := st_cells kb2
  have KB2 := Lib.hid kb2
  have BE2 : Hid (Below w.heap.size w w2) := Lib.hid hB2
  clear kb2 hb2 hB2 KB1 BE1 p1_0 p1_1 p1_2 p1_3 p1_4 p1_5 p1_6 p1_7 p1_8 p1_9
  go_wp2_with fail
  refine (HVA.out _ BE2.out).mono ?_
  rintro e w3 ⟨rfl, hb3⟩
  have kb3 := KB2.out.below hb3 KB2.out.lt
  have hB3 := BE2.out.trans (hb3.mono BE2.out.size)
  obtain ⟨p3_0, p3_1, p3_2, p3_3, p3_4, p3_5, p3_6, p3_7, p3_8, p3_9⟩ := st_cells kb3
  have KB3 := Lib.hid kb3
  have BE3 : Hid (Below w.heap.size w w3) := Lib.hid hB3
  clear kb3 hb3 hB3 KB2 BE2 p2_0 p2_1 p2_2 p2_3 p2_4 p2_5 p2_6 p2_7 p2_8 p2_9
  go_wp2_with fail
  go_ret
  exact ⟨rfl, BE3.out⟩
set_option maxRecDepth 100000 in
set_option maxHeartbeats 8000000 in
theorem stok_11 (d r m c v o i : Value) (S : S8) (w : World) (hr : RdSt w d r m c v o i S) (t0 : S.data.length ≤ 16) (t1 : (decide (S.ret.length ≤ 24) && kindsB S.ret) = true) (t2 : S.mem.length = 32) (t3 : storeB S.cells.length = true) (t4 : (decide (S.vars.length ≤ 20) && varsB S.vars S.cells.length) = true) (t5 : S.out.length ≤ 400) (t6 : S.inp.length ≤ 100) (t7 : 0 ≤ S.fault) (t8 : S.fault ≤ 13) (t9 : 0 ≤ S.fuel) (t10 : S.fuel ≤ 4000) :
    Calls Try.prog 56 #[.agg #[d, r, .int .i32 S.a, m, c, v, o, i, .int .i64 S.fault, .int .i64 S.fuel]] w fun e w' => e = .returned (.bool true) ∧ Below w.heap.size w w' := by
  have hform := hr.form
  obtain ⟨⟨A0, a0, rfl⟩, ⟨A1, a1, rfl⟩, ⟨A2, a2, rfl⟩, ⟨A3, a3, rfl⟩, ⟨A4, a4, rfl⟩, ⟨A5, a5, rfl⟩, ⟨A6, a6, rfl⟩⟩ := hform
  have HSL := Lib.hid (fun W (h : Below w.heap.size w W) => impl_slotsok _ S.ret W (hr.below h).r)
  have HVA := Lib.hid (fun W (h : Below w.heap.size w W) => impl_varsok _ _ _ _ _ _ _ S W (hr.below h))
  have HST := Lib.hid (fun W => impl_storeok A3 S.cells.length a3 (by obtain ⟨_, _, _, h, _⟩ := hr.c; exact h) W)
  have g0 : (S.data.length : Int) ≤ 16 := by omega
  have g0_ : decide ((S.data.length : Int) ≤ 16) = true := by simp; omega
  have c1 : (decide (S.ret.length ≤ 24) && kindsB S.ret) = true := t1
  rw [c1] at HSL
  have g2 : ((S.mem.length : Int) == 32) = true := by simp; omega
  have c3 : storeB S.cells.length = true := t3
  rw [c3] at HST
  have c4 : (decide (S.vars.length ≤ 20) && varsB S.vars S.cells.length) = true := t4
  rw [c4] at HVA
  have g5 : (S.out.length : Int) ≤ 400 := by omega
  have g5_ : decide ((S.out.length : Int) ≤ 400) = true := by simp; omega
  have g6 : (S.inp.length : Int) ≤ 100 := by omega
  have g6_ : decide ((S.inp.length : Int) ≤ 100) = true := by simp; omega
  have g7 : decide (0 ≤ S.fault) = true := by simp; omega
  have g8 : decide (S.fault ≤ 13) = true := by simp; omega
  have g9 : decide (0 ≤ S.fuel) = true := by simp; omega
  have g10 : decide (S.fuel ≤ 4000) = true := by simp; omega
  clear hr t0 t1 t2 t3 t4 t5 t6 t7 t8 t9 t10 c1 c3 c4
  go_enter Try.func56, Try.ntmps56
  go_wp2_with fail
  refine (HSL.out _ (below_alloc w _)).mono ?_
  rintro e w1 ⟨rfl, hb1⟩
  obtain ⟨kb1, hB1, hz1⟩ := boxes1 hb1
  obtain ⟨p1_0, p1_1, p1_2, p1_3, p1_4, p1_5, p1_6, p1_7, p1_8, p1_9⟩ := st_cells kb1
  have KB1 := Lib.hid kb1
  have BE1 : Hid (Below w.heap.size w w1) := Lib.hid hB1
  clear kb1 hb1 hB1 hz1
  go_wp2_with fail
  refine (HST.out _).mono ?_
  rintro e w2 ⟨rfl, hb2⟩
  have kb2 := KB1.out.below hb2 KB1.out.lt
  have hB2 := BE1.out.trans (hb2.mono BE1.out.size)
  obtain ⟨p2_0, p2_1, p2_2, p2_3, p2_4, p2_5, p2_6, p2_7, p2_8, p2_9⟩ := st_cells kb2
  have KB2 := Lib.hid kb2
  have BE2 : Hid (Below w.heap.size w w2) := Lib.hid hB2
  clear kb2 hb2 hB2 KB1 BE1 p1_0 p1_1 p1_2 p1_3 p1_4 p1_5 p1_6 p1_7 p1_8 p1_9
  go_wp2_with fail
  refine (HVA.out _ BE2.out).mono ?_
  rintro e w3 ⟨rfl, hb3⟩
  have kb3 := KB2.out.below hb3 KB2.out.lt
  have hB3 := BE2.out.trans (hb3.mono BE2.out.size)
  obtain ⟨p3_0, p3_1, p3_2, p3_3, p3_4, p3_5, p3_6, p3_7, p3_8, p3_9⟩ := st_cells kb3
  have KB3 := Lib.hid kb3
  have BE3 : Hid (Below w.heap.size w w3) := Lib.hid hB3
  clear kb3 hb3 hB3 KB2 BE2 p2_0 p2_1 p2_2 p2_3 p2_4 p2_5 p2_6 p2_7 p2_8 p2_9
  go_wp2_with fail
  go_ret
  exact ⟨rfl, BE3.out⟩
theorem impl_stok (d r m c v o i : Value) (S : S8) (w : World) (hr : RdSt w d r m c v o i S) :
    Calls Try.prog 56 #[.agg #[d, r, .int .i32 S.a, m, c, v, o, i, .int .i64 S.fault, .int .i64 S.fuel]] w fun e w' => e = .returned (.bool (ok8 S)) ∧ Below w.heap.size w w' := by
  by_cases t0 : S.data.length ≤ 16
  case neg =>
    rw [show ok8 S = false from Bool.eq_false_iff.2 fun e => t0 (by have h := (ok8_iff S).1 e; exact h.data)]
    exact stok_0 d r m c v o i S w hr t0
  by_cases t1 : (decide (S.ret.length ≤ 24) && kindsB S.ret) = true
  case neg =>
    rw [show ok8 S = false from Bool.eq_false_iff.2 fun e => t1 (by have h := (ok8_iff S).1 e; rw [decide_eq_true h.ret, h.kinds]; rfl)]
    exact stok_1 d r m c v o i S w hr t0 t1
  by_cases t2 : S.mem.length = 32
  case neg =>
    rw [show ok8 S = false from Bool.eq_false_iff.2 fun e => t2 (by have h := (ok8_iff S).1 e; exact h.mem)]
    exact stok_2 d r m c v o i S w hr t0 t1 t2
  by_cases t3 : storeB S.cells.length = true
  case neg =>
    rw [show ok8 S = false from Bool.eq_false_iff.2 fun e => t3 (by have h := (ok8_iff S).1 e; exact h.store)]
    exact stok_3 d r m c v o i S w hr t0 t1 t2 t3
  by_cases t4 : (decide (S.vars.length ≤ 20) && varsB S.vars S.cells.length) = true
  case neg =>
    rw [show ok8 S = false from Bool.eq_false_iff.2 fun e => t4 (by have h := (ok8_iff S).1 e; rw [decide_eq_true h.vars, h.places]; rfl)]
    exact stok_4 d r m c v o i S w hr t0 t1 t2 t3 t4
  by_cases t5 : S.out.length ≤ 400
  case neg =>
    rw [show ok8 S = false from Bool.eq_false_iff.2 fun e => t5 (by have h := (ok8_iff S).1 e; exact h.out)]
    exact stok_5 d r m c v o i S w hr t0 t1 t2 t3 t4 t5
  by_cases t6 : S.inp.length ≤ 100
  case neg =>
    rw [show ok8 S = false from Bool.eq_false_iff.2 fun e => t6 (by have h := (ok8_iff S).1 e; exact h.inp)]
    exact stok_6 d r m c v o i S w hr t0 t1 t2 t3 t4 t5 t6
  by_cases t7 : 0 ≤ S.fault
  case neg =>
    rw [show ok8 S = false from Bool.eq_false_iff.2 fun e => t7 (by have h := (ok8_iff S).1 e; exact h.fault.1)]
    exact stok_7 d r m c v o i S w hr t0 t1 t2 t3 t4 t5 t6 t7
  by_cases t8 : S.fault ≤ 13
  case neg =>
    rw [show ok8 S = false from Bool.eq_false_iff.2 fun e => t8 (by have h := (ok8_iff S).1 e; exact h.fault.2)]
    exact stok_8 d r m c v o i S w hr t0 t1 t2 t3 t4 t5 t6 t7 t8
  by_cases t9 : 0 ≤ S.fuel
  case neg =>
    rw [show ok8 S = false from Bool.eq_false_iff.2 fun e => t9 (by have h := (ok8_iff S).1 e; exact h.fuel.1)]
    exact stok_9 d r m c v o i S w hr t0 t1 t2 t3 t4 t5 t6 t7 t8 t9
  by_cases t10 : S.fuel ≤ 4000
  case neg =>
    rw [show ok8 S = false from Bool.eq_false_iff.2 fun e => t10 (by have h := (ok8_iff S).1 e; exact h.fuel.2)]
    exact stok_10 d r m c v o i S w hr t0 t1 t2 t3 t4 t5 t6 t7 t8 t9 t10
  rw [show ok8 S = true from (ok8_iff S).2 ⟨t0, by simpa using (Bool.and_eq_true_iff.1 t1).1, t2, by simpa using (Bool.and_eq_true_iff.1 t4).1, t5, t6, (Bool.and_eq_true_iff.1 t1).2, (Bool.and_eq_true_iff.1 t4).2, t3, ⟨t7, t8⟩, ⟨t9, t10⟩⟩]
  exact stok_11 d r m c v o i S w hr t0 t1 t2 t3 t4 t5 t6 t7 t8 t9 t10
end Go.Proofs.Ytmnfdbgiemappaa
