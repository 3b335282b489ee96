/-
  Whether two states are alike.
-/
import Derived.Test.YtlkkobffgbjkpaaStOwn
namespace Go.Proofs.Ytlkkobffgbjkpaa
open Go.RowKit Go

theorem eqbI (a b : Value) (xs : List Int) (w : World) (ha : RdI w a xs) (hb : RdI w b xs) : Calls Try.prog 77 #[a, b] w fun e w' => e = .returned (.bool true) ∧ Below w.heap.size w w' :=
  (eqI_same a b xs w ha hb).mono fun e w' ⟨h1, d, h2⟩ => ⟨h1, by rw [h2]; exact below_drewN (Below.refl _ _) d⟩
theorem eqbL (a b : Value) (xs : List Int) (w : World) (ha : RdL w a xs) (hb : RdL w b xs) : Calls Try.prog 80 #[a, b] w fun e w' => e = .returned (.bool true) ∧ Below w.heap.size w w' :=
  (eqL_same a b xs w ha hb).mono fun e w' ⟨h1, d, h2⟩ => ⟨h1, by rw [h2]; exact below_drewN (Below.refl _ _) d⟩
theorem eqbS (a b : Value) (xs : List (Int × Int)) (w : World) (ha : RdS w a xs) (hb : RdS w b xs) : Calls Try.prog 78 #[a, b] w fun e w' => e = .returned (.bool true) ∧ Below w.heap.size w w' := eqS_same a b xs w ha hb
theorem eqbN (a b : Value) (xs : List Nat) (w : World) (ha : RdN w a xs) (hb : RdN w b xs) : Calls Try.prog 79 #[a, b] w fun e w' => e = .returned (.bool true) ∧ Below w.heap.size w w' := eqn_same a b xs w ha hb
theorem eqbB (a b : Value) (xs : List Nat) (w : World) (ha : RdM w a xs) (hb : RdM w b xs) : Calls Try.prog 81 #[a, b] w fun e w' => e = .returned (.bool true) ∧ Below w.heap.size w w' := eqb_same a b xs w ha hb
set_option maxRecDepth 100000 in
set_option maxHeartbeats 8000000 in
theorem eqst_same (d r m c v o i d2 r2 m2 c2 v2 o2 i2 : Value) (S : S8) (w : World) (ha : RdSt w d r m c v o i S) (hb : RdSt w d2 r2 m2 c2 v2 o2 i2 S) :
    Calls Try.prog 38 #[.agg #[d, r, .int .i32 S.a, m, c, v, o, i, .int .i64 S.fault, .int .i64 S.fuel], .agg #[d2, r2, .int .i32 S.a, m2, c2, v2, o2, i2, .int .i64 S.fault, .int .i64 S.fuel]] w fun e w' => e = .returned (.bool true) ∧ Below w.heap.size w w' := by
  obtain ⟨⟨A0, a0, rfl⟩, ⟨A1, a1, rfl⟩, ⟨A2, a2, rfl⟩, ⟨A3, a3, rfl⟩, ⟨A4, a4, rfl⟩, ⟨A5, a5, rfl⟩, ⟨A6, a6, rfl⟩⟩ := ha.form
  obtain ⟨⟨B0, b0, rfl⟩, ⟨B1, b1, rfl⟩, ⟨B2, b2, rfl⟩, ⟨B3, b3, rfl⟩, ⟨B4, b4, rfl⟩, ⟨B5, b5, rfl⟩, ⟨B6, b6, rfl⟩⟩ := hb.form
  have HA := Lib.hid (fun W (h : Below w.heap.size w W) => ha.below h)
  have HB := Lib.hid (fun W (h : Below w.heap.size w W) => hb.below h)
  clear ha hb
  have q_a : (S.a != S.a) = false := by simp
  have q_fault : (S.fault != S.fault) = false := by simp
  have q_fuel : (S.fuel != S.fuel) = false := by simp
  go_enter Try.func38, Try.ntmps38
  go_wp2_with fail
  refine (eqbI _ _ S.data _ (HA.out _ (below_alloc2 w _ _)).d (HB.out _ (below_alloc2 w _ _)).d).mono ?_
  rintro e w1 ⟨rfl, hb1⟩
  obtain ⟨ka1, kb1, hB1, hz1⟩ := boxes2 hb1
  obtain ⟨p1_0, p1_1, p1_2, p1_3, p1_4, p1_5, p1_6, p1_7, p1_8, p1_9⟩ := st_cells ka1
  obtain ⟨r1_0, r1_1, r1_2, r1_3, r1_4, r1_5, r1_6, r1_7, r1_8, r1_9⟩ := st_cells kb1
  have KA1 := Lib.hid ka1
  have KB1 := Lib.hid kb1
  have BE1 : Hid (Below w.heap.size w w1) := Lib.hid hB1
  clear ka1 kb1 hb1 hB1 hz1
  go_wp2_with fail
  refine (eqbS _ _ S.ret _ (HA.out _ BE1.out).r (HB.out _ BE1.out).r).mono ?_
  rintro e w2 ⟨rfl, hb2⟩
  have ka2 := KA1.out.below hb2 KA1.out.lt
  have kb2 := KB1.out.below hb2 KB1.out.lt
  have hB2 := BE1.out.trans (hb2.mono BE1.out.size)
  obtain ⟨p2_0, p2_1, p2_2, p2_3, p2_4, p2_5, p2_6, p2_7, p2_8, p2_9⟩ := st_cells ka2
  obtain ⟨r2_0, r2_1, r2_2, r2_3, r2_4, r2_5, r2_6, r2_7, r2_8, r2_9⟩ := st_cells kb2
  have KA2 := Lib.hid ka2
  have KB2 := Lib.hid kb2
  have BE2 : Hid (Below w.heap.size w w2) := Lib.hid hB2
  clear ka2 kb2 hb2 hB2 KA1 KB1 BE1 p1_0 r1_0 p1_1 r1_1 p1_2 r1_2 p1_3 r1_3 p1_4 r1_4 p1_5 r1_5 p1_6 r1_6 p1_7 r1_7 p1_8 r1_8 p1_9 r1_9
  go_wp2_with fail
  refine (eqbI _ _ S.mem _ (HA.out _ BE2.out).m (HB.out _ BE2.out).m).mono ?_
  rintro e w3 ⟨rfl, hb3⟩
  have ka3 := KA2.out.below hb3 KA2.out.lt
  have kb3 := KB2.out.below hb3 KB2.out.lt
  have hB3 := BE2.out.trans (hb3.mono BE2.out.size)
  obtain ⟨p3_0, p3_1, p3_2, p3_3, p3_4, p3_5, p3_6, p3_7, p3_8, p3_9⟩ := st_cells ka3
  obtain ⟨r3_0, r3_1, r3_2, r3_3, r3_4, r3_5, r3_6, r3_7, r3_8, r3_9⟩ := st_cells kb3
  have KA3 := Lib.hid ka3
  have KB3 := Lib.hid kb3
  have BE3 : Hid (Below w.heap.size w w3) := Lib.hid hB3
  clear ka3 kb3 hb3 hB3 KA2 KB2 BE2 p2_0 r2_0 p2_1 r2_1 p2_2 r2_2 p2_3 r2_3 p2_4 r2_4 p2_5 r2_5 p2_6 r2_6 p2_7 r2_7 p2_8 r2_8 p2_9 r2_9
  go_wp2_with fail
  refine (eqbN _ _ S.cells _ (HA.out _ BE3.out).c (HB.out _ BE3.out).c).mono ?_
  rintro e w4 ⟨rfl, hb4⟩
  have ka4 := KA3.out.below hb4 KA3.out.lt
  have kb4 := KB3.out.below hb4 KB3.out.lt
  have hB4 := BE3.out.trans (hb4.mono BE3.out.size)
  obtain ⟨p4_0, p4_1, p4_2, p4_3, p4_4, p4_5, p4_6, p4_7, p4_8, p4_9⟩ := st_cells ka4
  obtain ⟨r4_0, r4_1, r4_2, r4_3, r4_4, r4_5, r4_6, r4_7, r4_8, r4_9⟩ := st_cells kb4
  have KA4 := Lib.hid ka4
  have KB4 := Lib.hid kb4
  have BE4 : Hid (Below w.heap.size w w4) := Lib.hid hB4
  clear ka4 kb4 hb4 hB4 KA3 KB3 BE3 p3_0 r3_0 p3_1 r3_1 p3_2 r3_2 p3_3 r3_3 p3_4 r3_4 p3_5 r3_5 p3_6 r3_6 p3_7 r3_7 p3_8 r3_8 p3_9 r3_9
  go_wp2_with fail
  refine (eqbL _ _ S.vars _ (HA.out _ BE4.out).v (HB.out _ BE4.out).v).mono ?_
  rintro e w5 ⟨rfl, hb5⟩
  have ka5 := KA4.out.below hb5 KA4.out.lt
  have kb5 := KB4.out.below hb5 KB4.out.lt
  have hB5 := BE4.out.trans (hb5.mono BE4.out.size)
  obtain ⟨p5_0, p5_1, p5_2, p5_3, p5_4, p5_5, p5_6, p5_7, p5_8, p5_9⟩ := st_cells ka5
  obtain ⟨r5_0, r5_1, r5_2, r5_3, r5_4, r5_5, r5_6, r5_7, r5_8, r5_9⟩ := st_cells kb5
  have KA5 := Lib.hid ka5
  have KB5 := Lib.hid kb5
  have BE5 : Hid (Below w.heap.size w w5) := Lib.hid hB5
  clear ka5 kb5 hb5 hB5 KA4 KB4 BE4 p4_0 r4_0 p4_1 r4_1 p4_2 r4_2 p4_3 r4_3 p4_4 r4_4 p4_5 r4_5 p4_6 r4_6 p4_7 r4_7 p4_8 r4_8 p4_9 r4_9
  go_wp2_with fail
  refine (eqbB _ _ S.out _ (HA.out _ BE5.out).o (HB.out _ BE5.out).o).mono ?_
  rintro e w6 ⟨rfl, hb6⟩
  have ka6 := KA5.out.below hb6 KA5.out.lt
  have kb6 := KB5.out.below hb6 KB5.out.lt
  have hB6 := BE5.out.trans (hb6.mono BE5.out.size)
  obtain ⟨p6_0, p6_1, p6_2, p6_3, p6_4, p6_5, p6_6, p6_7, p6_8, p6_9⟩ := st_cells ka6
  obtain ⟨r6_0, r6_1, r6_2, r6_3, r6_4, r6_5, r6_6, r6_7, r6_8, r6_9⟩ := st_cells kb6
  have KA6 := Lib.hid ka6
  have KB6 := Lib.hid kb6
  have BE6 : Hid (Below w.heap.size w w6) := Lib.hid hB6
  clear ka6 kb6 hb6 hB6 KA5 KB5 BE5 p5_0 r5_0 p5_1 r5_1 p5_2 r5_2 p5_3 r5_3 p5_4 r5_4 p5_5 r5_5 p5_6 r5_6 p5_7 r5_7 p5_8 r5_8 p5_9 r5_9
  go_wp2_with fail
  refine (eqbB _ _ S.inp _ (HA.out _ BE6.out).i (HB.out _ BE6.out).i).mono ?_
  rintro e w7 ⟨rfl, hb7⟩
  have ka7 := KA6.out.below hb7 KA6.out.lt
  have kb7 := KB6.out.below hb7 KB6.out.lt
  have hB7 := BE6.out.trans (hb7.mono BE6.out.size)
  obtain ⟨p7_0, p7_1, p7_2, p7_3, p7_4, p7_5, p7_6, p7_7, p7_8, p7_9⟩ := st_cells ka7
  obtain ⟨r7_0, r7_1, r7_2, r7_3, r7_4, r7_5, r7_6, r7_7, r7_8, r7_9⟩ := st_cells kb7
  have KA7 := Lib.hid ka7
  have KB7 := Lib.hid kb7
  have BE7 : Hid (Below w.heap.size w w7) := Lib.hid hB7
  clear ka7 kb7 hb7 hB7 KA6 KB6 BE6 p6_0 r6_0 p6_1 r6_1 p6_2 r6_2 p6_3 r6_3 p6_4 r6_4 p6_5 r6_5 p6_6 r6_6 p6_7 r6_7 p6_8 r6_8 p6_9 r6_9
  go_wp2_with fail
  go_ret
  exact ⟨rfl, BE7.out⟩
end Go.Proofs.Ytlkkobffgbjkpaa
