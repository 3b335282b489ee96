/-
  Whether two states are alike.
  Marks of each kind of list, at any place.
  Marks in a state.
  Marks that lie in a state.
-/
import Derived.Test.YtdiaiflleiebfaaGreatDoorDO5
namespace Go.Proofs.YtdiaiflleiebfaaGreatDoor
open Go.RowKit Go

theorem eqbI (a b : Value) (xs : List Int) (w : World) (ha : RdI w a xs) (hb : RdI w b xs) : Calls Tryz.prog 69 #[a, b] w fun e w' => e = .returned (.bool true) ∧ Below w.heap.size w w' :=
  (eqI_same a b xs w ha hb).mono fun e w' ⟨h1, d, h2⟩ => ⟨h1, by rw [h2]; exact below_drewN (Below.refl _ _) d⟩
theorem eqbL (a b : Value) (xs : List Int) (w : World) (ha : RdL w a xs) (hb : RdL w b xs) : Calls Tryz.prog 72 #[a, b] w fun e w' => e = .returned (.bool true) ∧ Below w.heap.size w w' :=
  (eqL_same a b xs w ha hb).mono fun e w' ⟨h1, d, h2⟩ => ⟨h1, by rw [h2]; exact below_drewN (Below.refl _ _) d⟩
theorem eqbS (a b : Value) (xs : List (Int × Int)) (w : World) (ha : RdS w a xs) (hb : RdS w b xs) : Calls Tryz.prog 70 #[a, b] w fun e w' => e = .returned (.bool true) ∧ Below w.heap.size w w' := eqS_same a b xs w ha hb
theorem eqbN (a b : Value) (xs : List Nat) (w : World) (ha : RdN w a xs) (hb : RdN w b xs) : Calls Tryz.prog 71 #[a, b] w fun e w' => e = .returned (.bool true) ∧ Below w.heap.size w w' := eqn_same a b xs w ha hb
theorem eqbB (a b : Value) (xs : List Nat) (w : World) (ha : RdM w a xs) (hb : RdM w b xs) : Calls Tryz.prog 73 #[a, b] w fun e w' => e = .returned (.bool true) ∧ Below w.heap.size w w' := eqb_same a b xs w ha hb
set_option maxRecDepth 100000 in
set_option maxHeartbeats 8000000 in
theorem eqst_same (d r m c v o i d2 r2 m2 c2 v2 o2 i2 : Value) (S : S8) (w : World) (ha : RdSt w d r m c v o i S) (hb : RdSt w d2 r2 m2 c2 v2 o2 i2 S) :
    Calls Tryz.prog 24 #[.agg #[d, r, .int .i32 S.a, m, c, v, o, i, .int .i64 S.fault, .int .i64 S.fuel], .agg #[d2, r2, .int .i32 S.a, m2, c2, v2, o2, i2, .int .i64 S.fault, .int .i64 S.fuel]] w fun e w' => e = .returned (.bool true) ∧ Below w.heap.size w w' := by
  obtain ⟨⟨A0, a0, rfl⟩, ⟨A1, a1, rfl⟩, ⟨A2, a2, rfl⟩, ⟨A3, a3, rfl⟩, ⟨A4, a4, rfl⟩, ⟨A5, a5, rfl⟩, ⟨A6, a6, rfl⟩⟩ := ha.form
  obtain ⟨⟨B0, b0, rfl⟩, ⟨B1, b1, rfl⟩, ⟨B2, b2, rfl⟩, ⟨B3, b3, rfl⟩, ⟨B4, b4, rfl⟩, ⟨B5, b5, rfl⟩, ⟨B6, b6, rfl⟩⟩ := hb.form
  have HA := Lib.hid (fun W (h : Below w.heap.size w W) => ha.below h)
  have HB := Lib.hid (fun W (h : Below w.heap.size w W) => hb.below h)
  clear ha hb
  have q_a : (S.a != S.a) = false := by simp
  have q_fault : (S.fault != S.fault) = false := by simp
  have q_fuel : (S.fuel != S.fuel) = false := by simp
  go_enter Tryz.func24, Tryz.ntmps24
  go_wp2_with fail
  refine (eqbI _ _ S.data _ (HA.out _ (below_alloc2 w _ _)).d (HB.out _ (below_alloc2 w _ _)).d).mono ?_
  rintro e w1 ⟨rfl, hb1⟩
  obtain ⟨ka1, kb1, hB1, hz1⟩ := boxes2 hb1
  obtain ⟨p1_0, p1_1, p1_2, p1_3, p1_4, p1_5, p1_6, p1_7, p1_8, p1_9⟩ := st_cells ka1
  obtain ⟨r1_0, r1_1, r1_2, r1_3, r1_4, r1_5, r1_6, r1_7, r1_8, r1_9⟩ := st_cells kb1
  have KA1 := Lib.hid ka1
  have KB1 := Lib.hid kb1
  have BE1 : Hid (Below w.heap.size w w1) := Lib.hid hB1
  clear ka1 kb1 hb1 hB1 hz1
  go_wp2_with fail
  refine (eqbS _ _ S.ret _ (HA.out _ BE1.out).r (HB.out _ BE1.out).r).mono ?_
  rintro e w2 ⟨rfl, hb2⟩
  have ka2 := KA1.out.below hb2 KA1.out.lt
  have kb2 := KB1.out.below hb2 KB1.out.lt
  have hB2 := BE1.out.trans (hb2.mono BE1.out.size)
  obtain ⟨p2_0, p2_1, p2_2, p2_3, p2_4, p2_5, p2_6, p2_7, p2_8, p2_9⟩ := st_cells ka2
  obtain ⟨r2_0, r2_1, r2_2, r2_3, r2_4, r2_5, r2_6, r2_7, r2_8, r2_9⟩ := st_cells kb2
  have KA2 := Lib.hid ka2
  have KB2 := Lib.hid kb2
  have BE2 : Hid (Below w.heap.size w w2) := Lib.hid hB2
  clear ka2 kb2 hb2 hB2 KA1 KB1 BE1 p1_0 r1_0 p1_1 r1_1 p1_2 r1_2 p1_3 r1_3 p1_4 r1_4 p1_5 r1_5 p1_6 r1_6 p1_7 r1_7 p1_8 r1_8 p1_9 r1_9
  go_wp2_with fail
  refine (eqbI _ _ S.mem _ (HA.out _ BE2.out).m (HB.out _ BE2.out).m).mono ?_
  rintro e w3 ⟨rfl, hb3⟩
  have ka3 := KA2.out.below hb3 KA2.out.lt
  have kb3 := KB2.out.below hb3 KB2.out.lt
  have hB3 := BE2.out.trans (hb3.mono BE2.out.size)
  obtain ⟨p3_0, p3_1, p3_2, p3_3, p3_4, p3_5, p3_6, p3_7, p3_8, p3_9⟩ := st_cells ka3
  obtain ⟨r3_0, r3_1, r3_2, r3_3, r3_4, r3_5, r3_6, r3_7, r3_8, r3_9⟩ := st_cells kb3
  have KA3 := Lib.hid ka3
  have KB3 := Lib.hid kb3
  have BE3 : Hid (Below w.heap.size w w3) := Lib.hid hB3
  clear ka3 kb3 hb3 hB3 KA2 KB2 BE2 p2_0 r2_0 p2_1 r2_1 p2_2 r2_2 p2_3 r2_3 p2_4 r2_4 p2_5 r2_5 p2_6 r2_6 p2_7 r2_7 p2_8 r2_8 p2_9 r2_9
  go_wp2_with fail
  refine (eqbN _ _ S.cells _ (HA.out _ BE3.out).c (HB.out _ BE3.out).c).mono ?_
  rintro e w4 ⟨rfl, hb4⟩
  have ka4 := KA3.out.below hb4 KA3.out.lt
  have kb4 := KB3.out.below hb4 KB3.out.lt
  have hB4 := BE3.out.trans (hb4.mono BE3.out.size)
  obtain ⟨p4_0, p4_1, p4_2, p4_3, p4_4, p4_5, p4_6, p4_7, p4_8, p4_9⟩ := st_cells ka4
  obtain ⟨r4_0, r4_1, r4_2, r4_3, r4_4, r4_5, r4_6, r4_7, r4_8, r4_9⟩ := st_cells kb4
  have KA4 := Lib.hid ka4
  have KB4 := Lib.hid kb4
  have BE4 : Hid (Below w.heap.size w w4) := Lib.hid hB4
  clear ka4 kb4 hb4 hB4 KA3 KB3 BE3 p3_0 r3_0 p3_1 r3_1 p3_2 r3_2 p3_3 r3_3 p3_4 r3_4 p3_5 r3_5 p3_6 r3_6 p3_7 r3_7 p3_8 r3_8 p3_9 r3_9
  go_wp2_with fail
  refine (eqbL _ _ S.vars _ (HA.out _ BE4.out).v (HB.out _ BE4.out).v).mono ?_
  rintro e w5 ⟨rfl, hb5⟩
  have ka5 := KA4.out.below hb5 KA4.out.lt
  have kb5 := KB4.out.below hb5 KB4.out.lt
  have hB5 := BE4.out.trans (hb5.mono BE4.out.size)
  obtain ⟨p5_0, p5_1, p5_2, p5_3, p5_4, p5_5, p5_6, p5_7, p5_8, p5_9⟩ := st_cells ka5
  obtain ⟨r5_0, r5_1, r5_2, r5_3, r5_4, r5_5, r5_6, r5_7, r5_8, r5_9⟩ := st_cells kb5
  have KA5 := Lib.hid ka5
  have KB5 := Lib.hid kb5
  have BE5 : Hid (Below w.heap.size w w5) := Lib.hid hB5
  clear ka5 kb5 hb5 hB5 KA4 KB4 BE4 p4_0 r4_0 p4_1 r4_1 p4_2 r4_2 p4_3 r4_3 p4_4 r4_4 p4_5 r4_5 p4_6 r4_6 p4_7 r4_7 p4_8 r4_8 p4_9 r4_9
  go_wp2_with fail
  refine (eqbB _ _ S.out _ (HA.out _ BE5.out).o (HB.out _ BE5.out).o).mono ?_
  rintro e w6 ⟨rfl, hb6⟩
  have ka6 := KA5.out.below hb6 KA5.out.lt
  have kb6 := KB5.out.below hb6 KB5.out.lt
  have hB6 := BE5.out.trans (hb6.mono BE5.out.size)
  obtain ⟨p6_0, p6_1, p6_2, p6_3, p6_4, p6_5, p6_6, p6_7, p6_8, p6_9⟩ := st_cells ka6
  obtain ⟨r6_0, r6_1, r6_2, r6_3, r6_4, r6_5, r6_6, r6_7, r6_8, r6_9⟩ := st_cells kb6
  have KA6 := Lib.hid ka6
  have KB6 := Lib.hid kb6
  have BE6 : Hid (Below w.heap.size w w6) := Lib.hid hB6
  clear ka6 kb6 hb6 hB6 KA5 KB5 BE5 p5_0 r5_0 p5_1 r5_1 p5_2 r5_2 p5_3 r5_3 p5_4 r5_4 p5_5 r5_5 p5_6 r5_6 p5_7 r5_7 p5_8 r5_8 p5_9 r5_9
  go_wp2_with fail
  refine (eqbB _ _ S.inp _ (HA.out _ BE6.out).i (HB.out _ BE6.out).i).mono ?_
  rintro e w7 ⟨rfl, hb7⟩
  have ka7 := KA6.out.below hb7 KA6.out.lt
  have kb7 := KB6.out.below hb7 KB6.out.lt
  have hB7 := BE6.out.trans (hb7.mono BE6.out.size)
  obtain ⟨p7_0, p7_1, p7_2, p7_3, p7_4, p7_5, p7_6, p7_7, p7_8, p7_9⟩ := st_cells ka7
  obtain ⟨r7_0, r7_1, r7_2, r7_3, r7_4, r7_5, r7_6, r7_7, r7_8, r7_9⟩ := st_cells kb7
  have KA7 := Lib.hid ka7
  have KB7 := Lib.hid kb7
  have BE7 : Hid (Below w.heap.size w w7) := Lib.hid hB7
  clear ka7 kb7 hb7 hB7 KA6 KB6 BE6 p6_0 r6_0 p6_1 r6_1 p6_2 r6_2 p6_3 r6_3 p6_4 r6_4 p6_5 r6_5 p6_6 r6_6 p6_7 r6_7 p6_8 r6_8 p6_9 r6_9
  go_wp2_with fail
  go_ret
  exact ⟨rfl, BE7.out⟩
end Go.Proofs.YtdiaiflleiebfaaGreatDoor

namespace Go.Proofs.YtdiaiflleiebfaaGreatDoor
open Go.RowKit Go

theorem ret_i64 {a b : Int} (h : a = b) : Ending.returned (.int .i64 a) = .returned (.int .i64 b) := by rw [h]
theorem heldN_at (v : Value) (k n : Nat) (h1 : k ≤ 4194304) (hx : n ≤ 4194304) (W : World) (hr : RdN W v (marksN k n)) :
    Calls Tryz.prog 81 #[v, .int .i64 k] W fun e w' => e = .returned (.int .i64 ((k : Int) + (n : Int))) ∧ W = w' := by
  have h := heldn_any v (marksN k n) k h1 (by rw [marksN_len]; exact hx) W hr
  rw [marksN_len, if_pos (show marksN k n = List.map (fun x => k + x) (List.range n) from rfl)] at h
  exact h
theorem marksB_get (k n i : Nat) (h : i < (marksB k n).length) : ((marksB k n)[i] : Int) = ((k : Int) + (i : Int)) % 256 := by simp [marksB]
set_option maxHeartbeats 1000000 in
theorem heldB_at (v : Value) (k n : Nat) (h1 : k ≤ 4194304) (hx : n ≤ 4194304) (w : World) (ha : RdM w v (marksB k n)) :
    Calls Tryz.prog 83 #[v, .int .i64 k] w fun e w' => e = .returned (.int .i64 ((k : Int) + (n : Int))) ∧ w = w' := by
  obtain ⟨A, ca, rfl, hla, hca⟩ := ha
  rw [marksB_len]
  have HA : Hid (∀ i, i < n → ∃ a, A = some a ∧ w.cell? (a.add i) = some (.int .u8 (((k : Int) + (i : Int)) % 256))) := Lib.hid fun i hi => by
    obtain ⟨a, h1, -, h3⟩ := hca i (by rw [marksB_len]; exact hi)
    refine ⟨a, h1, ?_⟩
    rw [h3]
    exact congrArg (fun z => some (Value.int .u8 z)) (marksB_get k n i _)
  clear hca hla
  go_enter Tryz.func83, Tryz.ntmps83
  go_wp2
  go_loop [1, 5] (fun vk vi => ∃ i : Nat, vi = .int .i64 i ∧ vk = .int .i64 ((k : Int) + (i : Int)) ∧ i ≤ n) (fun _ vi => n - (intOf vi).toNat)
  case atStart => exact ⟨0, rfl, by simp, by omega⟩
  case round =>
    obtain ⟨i, rfl, rfl, hi⟩ := hrel
    by_cases hp : i < n
    · have i2 : (i : Int) < (n : Int) := by omega
      obtain ⟨a, rfl, hc⟩ := HA.out i hp
      go_wp2
      go_round
      case rel => exact ⟨i + 1, by go_num, by go_num, by omega⟩
      case measure => simp [intOf]; omega
    · obtain rfl : i = n := by omega
      go_wp2
      go_ret
      exact ⟨rfl, rfl⟩
theorem mkaI (base : Nat) (v : Value) (xs : List Int) (z : Int) (k : Nat) (hz : z = (k : Int)) (h1 : k ≤ 4194304) (hx : xs.length ≤ 4194304) (W : World) (hown : W.ownsRow base 21 1 v xs.length ((xs).map iv)) :
    Calls Tryz.prog 74 #[v, .int .i64 z] W fun e w' => e = .returned (.int .i64 (z + (xs.length : Int))) ∧ w'.ownsRow base 21 1 v xs.length ((marksI k xs.length).map iv) ∧ W.grownBy w' v.ownBlock := by
  subst hz
  exact markI_any base v xs k (by omega) hx W hown
theorem hdaI (v : Value) (n : Nat) (z : Int) (k : Nat) (hz : z = (k : Int)) (h1 : k ≤ 4194304) (hx : n ≤ 4194304) (W : World) (hr : RdI W v (marksI k n)) :
    Calls Tryz.prog 79 #[v, .int .i64 z] W fun e w' => e = .returned (.int .i64 (z + (n : Int))) ∧ Below W.heap.size W w' := by
  subst hz
  exact (heldI_any v k n (by omega) hx W hr).mono fun e w' ⟨h1, h2⟩ => ⟨h1, by rw [← h2]; exact Below.refl _ _⟩
theorem mkaL (base : Nat) (v : Value) (xs : List Int) (z : Int) (k : Nat) (hz : z = (k : Int)) (h1 : k ≤ 4194304) (hx : xs.length ≤ 4194304) (W : World) (hown : W.ownsRow base 3 1 v xs.length ((xs).map lv)) :
    Calls Tryz.prog 77 #[v, .int .i64 z] W fun e w' => e = .returned (.int .i64 (z + (xs.length : Int))) ∧ w'.ownsRow base 3 1 v xs.length ((marksL k xs.length).map lv) ∧ W.grownBy w' v.ownBlock := by
  subst hz
  exact markL_any base v xs k (by omega) hx W hown
theorem hdaL (v : Value) (n : Nat) (z : Int) (k : Nat) (hz : z = (k : Int)) (h1 : k ≤ 4194304) (hx : n ≤ 4194304) (W : World) (hr : RdL W v (marksL k n)) :
    Calls Tryz.prog 82 #[v, .int .i64 z] W fun e w' => e = .returned (.int .i64 (z + (n : Int))) ∧ Below W.heap.size W w' := by
  subst hz
  exact (heldL_any v k n (by omega) hx W hr).mono fun e w' ⟨h1, h2⟩ => ⟨h1, by rw [← h2]; exact Below.refl _ _⟩
theorem mkaN (base : Nat) (v : Value) (xs : List Nat) (z : Int) (k : Nat) (hz : z = (k : Int)) (h1 : k ≤ 4194304) (hx : xs.length ≤ 4194304) (W : World) (hown : W.ownsRow base 36 1 v xs.length ((xs).map u32v)) :
    Calls Tryz.prog 76 #[v, .int .i64 z] W fun e w' => e = .returned (.int .i64 (z + (xs.length : Int))) ∧ w'.ownsRow base 36 1 v xs.length ((marksN k xs.length).map u32v) ∧ W.grownBy w' v.ownBlock := by
  subst hz
  exact markn_any base v xs k (by omega) hx W hown
theorem hdaN (v : Value) (n : Nat) (z : Int) (k : Nat) (hz : z = (k : Int)) (h1 : k ≤ 4194304) (hx : n ≤ 4194304) (W : World) (hr : RdN W v (marksN k n)) :
    Calls Tryz.prog 81 #[v, .int .i64 z] W fun e w' => e = .returned (.int .i64 (z + (n : Int))) ∧ Below W.heap.size W w' := by
  subst hz
  exact (heldN_at v k n (by omega) hx W hr).mono fun e w' ⟨h1, h2⟩ => ⟨h1, by rw [← h2]; exact Below.refl _ _⟩
theorem mkaB (base : Nat) (v : Value) (xs : List Nat) (z : Int) (k : Nat) (hz : z = (k : Int)) (h1 : k ≤ 4194304) (hx : xs.length ≤ 4194304) (W : World) (hown : W.ownsRow base 5 1 v xs.length ((xs).map b8v)) :
    Calls Tryz.prog 78 #[v, .int .i64 z] W fun e w' => e = .returned (.int .i64 (z + (xs.length : Int))) ∧ w'.ownsRow base 5 1 v xs.length ((marksB k xs.length).map b8v) ∧ W.grownBy w' v.ownBlock := by
  subst hz
  exact markb_any base v xs k (by omega) hx W hown
theorem hdaB (v : Value) (n : Nat) (z : Int) (k : Nat) (hz : z = (k : Int)) (h1 : k ≤ 4194304) (hx : n ≤ 4194304) (W : World) (hr : RdM W v (marksB k n)) :
    Calls Tryz.prog 83 #[v, .int .i64 z] W fun e w' => e = .returned (.int .i64 (z + (n : Int))) ∧ Below W.heap.size W w' := by
  subst hz
  exact (heldB_at v k n (by omega) hx W hr).mono fun e w' ⟨h1, h2⟩ => ⟨h1, by rw [← h2]; exact Below.refl _ _⟩
theorem mkaS (base : Nat) (v : Value) (xs : List (Int × Int)) (z : Int) (k : Nat) (hz : z = (k : Int)) (h1 : k ≤ 4194304) (hx : xs.length ≤ 4194304) (W : World) (hown : W.ownsRow base 69 2 v xs.length (slv (xs))) :
    Calls Tryz.prog 75 #[v, .int .i64 z] W fun e w' => e = .returned (.int .i64 (z + 2 * (xs.length : Int))) ∧ w'.ownsRow base 69 2 v xs.length (slv (marksS k xs.length)) ∧ W.grownBy w' v.ownBlock := by
  subst hz
  exact markS_any base v xs k (by omega) hx W hown
theorem hdaS (v : Value) (n : Nat) (z : Int) (k : Nat) (hz : z = (k : Int)) (h1 : k ≤ 4194304) (hx : n ≤ 4194304) (W : World) (hr : RdS W v (marksS k n)) :
    Calls Tryz.prog 80 #[v, .int .i64 z] W fun e w' => e = .returned (.int .i64 (z + 2 * (n : Int))) ∧ Below W.heap.size W w' := by
  subst hz
  exact (heldS_any v k n (by omega) hx W hr).mono fun e w' ⟨h1, h2⟩ => ⟨h1, by rw [← h2]; exact Below.refl _ _⟩
theorem hdzI (v : Value) (n : Nat) (z z2 : Int) (k : Nat) (hz : z = (k : Int)) (hz2 : z + (n : Int) = z2) (h1 : k ≤ 4194304) (hx : n ≤ 4194304) (W : World) (hr : RdI W v (marksI k n)) :
    Calls Tryz.prog 79 #[v, .int .i64 z] W fun e w' => e = .returned (.int .i64 z2) ∧ Below W.heap.size W w' := by
  subst hz2
  exact hdaI v n z k hz h1 hx W hr
theorem hdzL (v : Value) (n : Nat) (z z2 : Int) (k : Nat) (hz : z = (k : Int)) (hz2 : z + (n : Int) = z2) (h1 : k ≤ 4194304) (hx : n ≤ 4194304) (W : World) (hr : RdL W v (marksL k n)) :
    Calls Tryz.prog 82 #[v, .int .i64 z] W fun e w' => e = .returned (.int .i64 z2) ∧ Below W.heap.size W w' := by
  subst hz2
  exact hdaL v n z k hz h1 hx W hr
theorem hdzN (v : Value) (n : Nat) (z z2 : Int) (k : Nat) (hz : z = (k : Int)) (hz2 : z + (n : Int) = z2) (h1 : k ≤ 4194304) (hx : n ≤ 4194304) (W : World) (hr : RdN W v (marksN k n)) :
    Calls Tryz.prog 81 #[v, .int .i64 z] W fun e w' => e = .returned (.int .i64 z2) ∧ Below W.heap.size W w' := by
  subst hz2
  exact hdaN v n z k hz h1 hx W hr
theorem hdzB (v : Value) (n : Nat) (z z2 : Int) (k : Nat) (hz : z = (k : Int)) (hz2 : z + (n : Int) = z2) (h1 : k ≤ 4194304) (hx : n ≤ 4194304) (W : World) (hr : RdM W v (marksB k n)) :
    Calls Tryz.prog 83 #[v, .int .i64 z] W fun e w' => e = .returned (.int .i64 z2) ∧ Below W.heap.size W w' := by
  subst hz2
  exact hdaB v n z k hz h1 hx W hr
theorem hdzS (v : Value) (n : Nat) (z z2 : Int) (k : Nat) (hz : z = (k : Int)) (hz2 : z + 2 * (n : Int) = z2) (h1 : k ≤ 4194304) (hx : n ≤ 4194304) (W : World) (hr : RdS W v (marksS k n)) :
    Calls Tryz.prog 80 #[v, .int .i64 z] W fun e w' => e = .returned (.int .i64 z2) ∧ Below W.heap.size W w' := by
  subst hz2
  exact hdaS v n z k hz h1 hx W hr
end Go.Proofs.YtdiaiflleiebfaaGreatDoor

namespace Go.Proofs.YtdiaiflleiebfaaGreatDoor
open Go.RowKit Go

set_option maxRecDepth 100000 in
set_option maxHeartbeats 8000000 in
theorem markst_any (lo hi : Nat) (d r m c v o i : Value) (S : S8) (k : Nat) (h1 : k ≤ 100000) (hs : totSt S ≤ 4000000) (w : World) (ho : OwnSt w lo hi d r m c v o i S) (_hw : hi ≤ w.heap.size) :
    Calls Tryz.prog 25 #[.agg #[d, r, .int .i32 S.a, m, c, v, o, i, .int .i64 S.fault, .int .i64 S.fuel], .int .i64 k] w fun e w' => e = .returned (.int .i64 ((k : Int) + (totSt S : Int))) ∧ OwnSt w' lo hi d r m c v o i (markSt S k) ∧ Kept lo hi w w' := by
  have hts := hs
  unfold totSt at hs
  obtain ⟨⟨A0, a0, rfl⟩, ⟨A1, a1, rfl⟩, ⟨A2, a2, rfl⟩, ⟨A3, a3, rfl⟩, ⟨A4, a4, rfl⟩, ⟨A5, a5, rfl⟩, ⟨A6, a6, rfl⟩⟩ := ho.form hts
  have TOP := Lib.hid ho.top
  have LO0 := Lib.hid (own_lt ho.d)
  have HI0 : Hid (∀ k, (Value.slice A0 S.data.length a0).ownBlock = some k → k < hi) := Lib.hid (fun k hk => ho.top _ (by simp) k hk)
  have LO1 := Lib.hid (own_lt ho.r)
  have HI1 : Hid (∀ k, (Value.slice A1 S.ret.length a1).ownBlock = some k → k < hi) := Lib.hid (fun k hk => ho.top _ (by simp) k hk)
  have LO2 := Lib.hid (own_lt ho.m)
  have HI2 : Hid (∀ k, (Value.slice A2 S.mem.length a2).ownBlock = some k → k < hi) := Lib.hid (fun k hk => ho.top _ (by simp) k hk)
  have LO3 := Lib.hid (own_lt ho.c)
  have HI3 : Hid (∀ k, (Value.slice A3 S.cells.length a3).ownBlock = some k → k < hi) := Lib.hid (fun k hk => ho.top _ (by simp) k hk)
  have LO4 := Lib.hid (own_lt ho.v)
  have HI4 : Hid (∀ k, (Value.slice A4 S.vars.length a4).ownBlock = some k → k < hi) := Lib.hid (fun k hk => ho.top _ (by simp) k hk)
  have LO5 := Lib.hid (own_lt ho.o)
  have HI5 : Hid (∀ k, (Value.slice A5 S.out.length a5).ownBlock = some k → k < hi) := Lib.hid (fun k hk => ho.top _ (by simp) k hk)
  have LO6 := Lib.hid (tail_lt ho.i)
  have HI6 : Hid (∀ k, (Value.slice A6 S.inp.length a6).ownBlock = some k → k < hi) := Lib.hid (fun k hk => ho.top _ (by simp) k hk)
  have DM := Lib.hid ho.dm
  have OI := Lib.hid ho.oi
  have R0 : Hid (Rows7 (w.alloc (.cells #[.slice A0 S.data.length a0, .slice A1 S.ret.length a1, .int .i32 S.a, .slice A2 S.mem.length a2, .slice A3 S.cells.length a3, .slice A4 S.vars.length a4, .slice A5 S.out.length a5, .slice A6 S.inp.length a6, .int .i64 S.fault, .int .i64 S.fuel] 29)) lo S (.slice A0 S.data.length a0) (.slice A1 S.ret.length a1) (.slice A2 S.mem.length a2) (.slice A3 S.cells.length a3) (.slice A4 S.vars.length a4) (.slice A5 S.out.length a5) (.slice A6 S.inp.length a6) S.data S.ret S.mem S.cells S.vars S.out S.inp) := Lib.hid ⟨ho.d.alloc _, ho.r.alloc _, ho.m.alloc _, ho.c.alloc _, ho.v.alloc _, ho.o.alloc _, ho.i.alloc _⟩
  have KB0 := Lib.hid (Blk.new w 29 #[.slice A0 S.data.length a0, .slice A1 S.ret.length a1, .int .i32 S.a, .slice A2 S.mem.length a2, .slice A3 S.cells.length a3, .slice A4 S.vars.length a4, .slice A5 S.out.length a5, .slice A6 S.inp.length a6, .int .i64 S.fault, .int .i64 S.fuel])
  have KE0 : Hid (Kept lo hi w (w.alloc (.cells #[.slice A0 S.data.length a0, .slice A1 S.ret.length a1, .int .i32 S.a, .slice A2 S.mem.length a2, .slice A3 S.cells.length a3, .slice A4 S.vars.length a4, .slice A5 S.out.length a5, .slice A6 S.inp.length a6, .int .i64 S.fault, .int .i64 S.fuel] 29))) := Lib.hid (Kept.of_below (below_alloc _ _))
  clear ho hts
  go_enter Tryz.func25, Tryz.ntmps25
  go_wp2_with fail
  refine (mkaI lo _ S.data _ (k) (by push_cast; omega) (by omega) (by omega) _ R0.out.d).mono ?_
  rintro e w1 ⟨rfl, ho1, hg1⟩
  have R1 : Hid (Rows7 w1 lo S (.slice A0 S.data.length a0) (.slice A1 S.ret.length a1) (.slice A2 S.mem.length a2) (.slice A3 S.cells.length a3) (.slice A4 S.vars.length a4) (.slice A5 S.out.length a5) (.slice A6 S.inp.length a6) (marksI (k) S.data.length) S.ret S.mem S.cells S.vars S.out S.inp) := Lib.hid ⟨ho1, R0.out.r.kept hg1 (rows_ne R0.out.r R0.out.d (by decide)), R0.out.m.kept hg1 (apart_sym DM.out), R0.out.c.kept hg1 (rows_ne R0.out.c R0.out.d (by decide)), R0.out.v.kept hg1 (rows_ne R0.out.v R0.out.d (by decide)), R0.out.o.kept hg1 (rows_ne R0.out.o R0.out.d (by decide)), R0.out.i.kept hg1 (tail_ne R0.out.i R0.out.d (by decide))⟩
  have kb1 := KB0.out.grown hg1 (box_neG KB0.out R0.out.d (by decide))
  have KE1 : Hid (Kept lo hi w w1) := Lib.hid (KE0.out.trans (Kept.of_grown hg1 fun k hk => ⟨LO0.out k hk, HI0.out k hk⟩))
  obtain ⟨p1_0, p1_1, p1_2, p1_3, p1_4, p1_5, p1_6, p1_7, p1_8, p1_9⟩ := st_cells kb1
  have KB1 := Lib.hid kb1
  clear kb1 ho1 hg1 KE0 KB0 R0 
  go_wp2_with fail
  refine (mkaS lo _ S.ret _ (k + S.data.length) (by push_cast; omega) (by omega) (by omega) _ R1.out.r).mono ?_
  rintro e w2 ⟨rfl, ho2, hg2⟩
  have R2 : Hid (Rows7 w2 lo S (.slice A0 S.data.length a0) (.slice A1 S.ret.length a1) (.slice A2 S.mem.length a2) (.slice A3 S.cells.length a3) (.slice A4 S.vars.length a4) (.slice A5 S.out.length a5) (.slice A6 S.inp.length a6) (marksI (k) S.data.length) (marksS (k + S.data.length) S.ret.length) S.mem S.cells S.vars S.out S.inp) := Lib.hid ⟨R1.out.d.kept hg2 (rows_ne R1.out.d R1.out.r (by decide)), ho2, R1.out.m.kept hg2 (rows_ne R1.out.m R1.out.r (by decide)), R1.out.c.kept hg2 (rows_ne R1.out.c R1.out.r (by decide)), R1.out.v.kept hg2 (rows_ne R1.out.v R1.out.r (by decide)), R1.out.o.kept hg2 (rows_ne R1.out.o R1.out.r (by decide)), R1.out.i.kept hg2 (tail_ne R1.out.i R1.out.r (by decide))⟩
  have kb2 := KB1.out.grown hg2 (box_neG KB1.out R1.out.r (by decide))
  have KE2 : Hid (Kept lo hi w w2) := Lib.hid (KE1.out.trans (Kept.of_grown hg2 fun k hk => ⟨LO1.out k hk, HI1.out k hk⟩))
  obtain ⟨p2_0, p2_1, p2_2, p2_3, p2_4, p2_5, p2_6, p2_7, p2_8, p2_9⟩ := st_cells kb2
  have KB2 := Lib.hid kb2
  clear kb2 ho2 hg2 KE1 KB1 R1 p1_0 p1_1 p1_2 p1_3 p1_4 p1_5 p1_6 p1_7 p1_8 p1_9
  go_wp2_with fail
  refine (mkaI lo _ S.mem _ (k + S.data.length + 2 * S.ret.length) (by push_cast; omega) (by omega) (by omega) _ R2.out.m).mono ?_
  rintro e w3 ⟨rfl, ho3, hg3⟩
  have R3 : Hid (Rows7 w3 lo S (.slice A0 S.data.length a0) (.slice A1 S.ret.length a1) (.slice A2 S.mem.length a2) (.slice A3 S.cells.length a3) (.slice A4 S.vars.length a4) (.slice A5 S.out.length a5) (.slice A6 S.inp.length a6) (marksI (k) S.data.length) (marksS (k + S.data.length) S.ret.length) (marksI (k + S.data.length + 2 * S.ret.length) S.mem.length) S.cells S.vars S.out S.inp) := Lib.hid ⟨R2.out.d.kept hg3 (DM.out), R2.out.r.kept hg3 (rows_ne R2.out.r R2.out.m (by decide)), ho3, R2.out.c.kept hg3 (rows_ne R2.out.c R2.out.m (by decide)), R2.out.v.kept hg3 (rows_ne R2.out.v R2.out.m (by decide)), R2.out.o.kept hg3 (rows_ne R2.out.o R2.out.m (by decide)), R2.out.i.kept hg3 (tail_ne R2.out.i R2.out.m (by decide))⟩
  have kb3 := KB2.out.grown hg3 (box_neG KB2.out R2.out.m (by decide))
  have KE3 : Hid (Kept lo hi w w3) := Lib.hid (KE2.out.trans (Kept.of_grown hg3 fun k hk => ⟨LO2.out k hk, HI2.out k hk⟩))
  obtain ⟨p3_0, p3_1, p3_2, p3_3, p3_4, p3_5, p3_6, p3_7, p3_8, p3_9⟩ := st_cells kb3
  have KB3 := Lib.hid kb3
  clear kb3 ho3 hg3 KE2 KB2 R2 p2_0 p2_1 p2_2 p2_3 p2_4 p2_5 p2_6 p2_7 p2_8 p2_9
  go_wp2_with fail
  refine (mkaN lo _ S.cells _ (k + S.data.length + 2 * S.ret.length + S.mem.length) (by push_cast; omega) (by omega) (by omega) _ R3.out.c).mono ?_
  rintro e w4 ⟨rfl, ho4, hg4⟩
  have R4 : Hid (Rows7 w4 lo S (.slice A0 S.data.length a0) (.slice A1 S.ret.length a1) (.slice A2 S.mem.length a2) (.slice A3 S.cells.length a3) (.slice A4 S.vars.length a4) (.slice A5 S.out.length a5) (.slice A6 S.inp.length a6) (marksI (k) S.data.length) (marksS (k + S.data.length) S.ret.length) (marksI (k + S.data.length + 2 * S.ret.length) S.mem.length) (marksN (k + S.data.length + 2 * S.ret.length + S.mem.length) S.cells.length) S.vars S.out S.inp) := Lib.hid ⟨R3.out.d.kept hg4 (rows_ne R3.out.d R3.out.c (by decide)), R3.out.r.kept hg4 (rows_ne R3.out.r R3.out.c (by decide)), R3.out.m.kept hg4 (rows_ne R3.out.m R3.out.c (by decide)), ho4, R3.out.v.kept hg4 (rows_ne R3.out.v R3.out.c (by decide)), R3.out.o.kept hg4 (rows_ne R3.out.o R3.out.c (by decide)), R3.out.i.kept hg4 (tail_ne R3.out.i R3.out.c (by decide))⟩
  have kb4 := KB3.out.grown hg4 (box_neG KB3.out R3.out.c (by decide))
  have KE4 : Hid (Kept lo hi w w4) := Lib.hid (KE3.out.trans (Kept.of_grown hg4 fun k hk => ⟨LO3.out k hk, HI3.out k hk⟩))
  obtain ⟨p4_0, p4_1, p4_2, p4_3, p4_4, p4_5, p4_6, p4_7, p4_8, p4_9⟩ := st_cells kb4
  have KB4 := Lib.hid kb4
  clear kb4 ho4 hg4 KE3 KB3 R3 p3_0 p3_1 p3_2 p3_3 p3_4 p3_5 p3_6 p3_7 p3_8 p3_9
  go_wp2_with fail
  refine (mkaL lo _ S.vars _ (k + S.data.length + 2 * S.ret.length + S.mem.length + S.cells.length) (by push_cast; omega) (by omega) (by omega) _ R4.out.v).mono ?_
  rintro e w5 ⟨rfl, ho5, hg5⟩
  have R5 : Hid (Rows7 w5 lo S (.slice A0 S.data.length a0) (.slice A1 S.ret.length a1) (.slice A2 S.mem.length a2) (.slice A3 S.cells.length a3) (.slice A4 S.vars.length a4) (.slice A5 S.out.length a5) (.slice A6 S.inp.length a6) (marksI (k) S.data.length) (marksS (k + S.data.length) S.ret.length) (marksI (k + S.data.length + 2 * S.ret.length) S.mem.length) (marksN (k + S.data.length + 2 * S.ret.length + S.mem.length) S.cells.length) (marksL (k + S.data.length + 2 * S.ret.length + S.mem.length + S.cells.length) S.vars.length) S.out S.inp) := Lib.hid ⟨R4.out.d.kept hg5 (rows_ne R4.out.d R4.out.v (by decide)), R4.out.r.kept hg5 (rows_ne R4.out.r R4.out.v (by decide)), R4.out.m.kept hg5 (rows_ne R4.out.m R4.out.v (by decide)), R4.out.c.kept hg5 (rows_ne R4.out.c R4.out.v (by decide)), ho5, R4.out.o.kept hg5 (rows_ne R4.out.o R4.out.v (by decide)), R4.out.i.kept hg5 (tail_ne R4.out.i R4.out.v (by decide))⟩
  have kb5 := KB4.out.grown hg5 (box_neG KB4.out R4.out.v (by decide))
  have KE5 : Hid (Kept lo hi w w5) := Lib.hid (KE4.out.trans (Kept.of_grown hg5 fun k hk => ⟨LO4.out k hk, HI4.out k hk⟩))
  obtain ⟨p5_0, p5_1, p5_2, p5_3, p5_4, p5_5, p5_6, p5_7, p5_8, p5_9⟩ := st_cells kb5
  have KB5 := Lib.hid kb5
  clear kb5 ho5 hg5 KE4 KB4 R4 p4_0 p4_1 p4_2 p4_3 p4_4 p4_5 p4_6 p4_7 p4_8 p4_9
  go_wp2_with fail
  refine (mkaB lo _ S.out _ (k + S.data.length + 2 * S.ret.length + S.mem.length + S.cells.length + S.vars.length) (by push_cast; omega) (by omega) (by omega) _ R5.out.o).mono ?_
  rintro e w6 ⟨rfl, ho6, hg6⟩
  have R6 : Hid (Rows7 w6 lo S (.slice A0 S.data.length a0) (.slice A1 S.ret.length a1) (.slice A2 S.mem.length a2) (.slice A3 S.cells.length a3) (.slice A4 S.vars.length a4) (.slice A5 S.out.length a5) (.slice A6 S.inp.length a6) (marksI (k) S.data.length) (marksS (k + S.data.length) S.ret.length) (marksI (k + S.data.length + 2 * S.ret.length) S.mem.length) (marksN (k + S.data.length + 2 * S.ret.length + S.mem.length) S.cells.length) (marksL (k + S.data.length + 2 * S.ret.length + S.mem.length + S.cells.length) S.vars.length) (marksB (k + S.data.length + 2 * S.ret.length + S.mem.length + S.cells.length + S.vars.length) S.out.length) S.inp) := Lib.hid ⟨R5.out.d.kept hg6 (rows_ne R5.out.d R5.out.o (by decide)), R5.out.r.kept hg6 (rows_ne R5.out.r R5.out.o (by decide)), R5.out.m.kept hg6 (rows_ne R5.out.m R5.out.o (by decide)), R5.out.c.kept hg6 (rows_ne R5.out.c R5.out.o (by decide)), R5.out.v.kept hg6 (rows_ne R5.out.v R5.out.o (by decide)), ho6, R5.out.i.kept hg6 (apart_sym OI.out)⟩
  have kb6 := KB5.out.grown hg6 (box_neG KB5.out R5.out.o (by decide))
  have KE6 : Hid (Kept lo hi w w6) := Lib.hid (KE5.out.trans (Kept.of_grown hg6 fun k hk => ⟨LO5.out k hk, HI5.out k hk⟩))
  obtain ⟨p6_0, p6_1, p6_2, p6_3, p6_4, p6_5, p6_6, p6_7, p6_8, p6_9⟩ := st_cells kb6
  have KB6 := Lib.hid kb6
  clear kb6 ho6 hg6 KE5 KB5 R5 p5_0 p5_1 p5_2 p5_3 p5_4 p5_5 p5_6 p5_7 p5_8 p5_9
  go_wp2_with fail
  refine (mktB lo _ S.inp _ (k + S.data.length + 2 * S.ret.length + S.mem.length + S.cells.length + S.vars.length + S.out.length) (by push_cast; omega) (by omega) (by omega) _ R6.out.i).mono ?_
  rintro e w7 ⟨rfl, ho7, hg7⟩
  have R7 : Hid (Rows7 w7 lo S (.slice A0 S.data.length a0) (.slice A1 S.ret.length a1) (.slice A2 S.mem.length a2) (.slice A3 S.cells.length a3) (.slice A4 S.vars.length a4) (.slice A5 S.out.length a5) (.slice A6 S.inp.length a6) (marksI (k) S.data.length) (marksS (k + S.data.length) S.ret.length) (marksI (k + S.data.length + 2 * S.ret.length) S.mem.length) (marksN (k + S.data.length + 2 * S.ret.length + S.mem.length) S.cells.length) (marksL (k + S.data.length + 2 * S.ret.length + S.mem.length + S.cells.length) S.vars.length) (marksB (k + S.data.length + 2 * S.ret.length + S.mem.length + S.cells.length + S.vars.length) S.out.length) (marksB (k + S.data.length + 2 * S.ret.length + S.mem.length + S.cells.length + S.vars.length + S.out.length) S.inp.length)) := Lib.hid ⟨R6.out.d.kept hg7 (ne_tail R6.out.d R6.out.i (by decide)), R6.out.r.kept hg7 (ne_tail R6.out.r R6.out.i (by decide)), R6.out.m.kept hg7 (ne_tail R6.out.m R6.out.i (by decide)), R6.out.c.kept hg7 (ne_tail R6.out.c R6.out.i (by decide)), R6.out.v.kept hg7 (ne_tail R6.out.v R6.out.i (by decide)), R6.out.o.kept hg7 (OI.out), ho7⟩
  have kb7 := KB6.out.grown hg7 (box_neT KB6.out R6.out.i (by decide))
  have KE7 : Hid (Kept lo hi w w7) := Lib.hid (KE6.out.trans (Kept.of_grown hg7 fun k hk => ⟨LO6.out k hk, HI6.out k hk⟩))
  obtain ⟨p7_0, p7_1, p7_2, p7_3, p7_4, p7_5, p7_6, p7_7, p7_8, p7_9⟩ := st_cells kb7
  have KB7 := Lib.hid kb7
  clear kb7 ho7 hg7 KE6 KB6 R6 p6_0 p6_1 p6_2 p6_3 p6_4 p6_5 p6_6 p6_7 p6_8 p6_9
  go_wp2_with fail
  go_ret
  refine ⟨ret_i64 (by unfold totSt; push_cast; omega), ?_, KE7.out⟩
  exact Rows7.st R7.out TOP.out DM.out OI.out
theorem markst1 (lo hi : Nat) (d r m c v o i : Value) (S : S8) (hs : totSt S ≤ 4000000) (w : World) (ho : OwnSt w lo hi d r m c v o i S) (hw : hi ≤ w.heap.size) :
    Calls Tryz.prog 25 #[.agg #[d, r, .int .i32 S.a, m, c, v, o, i, .int .i64 S.fault, .int .i64 S.fuel], .int .i64 1] w fun e w' => e = .returned (.int .i64 (1 + (totSt S : Int))) ∧ OwnSt w' lo hi d r m c v o i (markSt S 1) ∧ Kept lo hi w w' := markst_any lo hi d r m c v o i S 1 (by omega) hs w ho hw
end Go.Proofs.YtdiaiflleiebfaaGreatDoor

namespace Go.Proofs.YtdiaiflleiebfaaGreatDoor
open Go.RowKit Go

set_option maxRecDepth 100000 in
set_option maxHeartbeats 4000000 in
theorem heldst_z (d r m c v o i : Value) (S : S8) (k : Nat) (z0 z1 z2 z3 z4 z5 z6 z7 : Int) (e0 : z0 = (k : Int)) (e1 : z0 + (S.data.length : Int) = z1) (e2 : z1 + 2 * (S.ret.length : Int) = z2) (e3 : z2 + (S.mem.length : Int) = z3) (e4 : z3 + (S.cells.length : Int) = z4) (e5 : z4 + (S.vars.length : Int) = z5) (e6 : z5 + (S.out.length : Int) = z6) (e7 : z6 + (S.inp.length : Int) = z7) (h1 : k ≤ 100000) (hs : totSt S ≤ 4000000) (w : World) (hr : RdSt w d r m c v o i (markSt S k)) :
    Calls Tryz.prog 26 #[.agg #[d, r, .int .i32 S.a, m, c, v, o, i, .int .i64 S.fault, .int .i64 S.fuel], .int .i64 z0] w fun e w' => e = .returned (.int .i64 z7) ∧ Below w.heap.size w w' := by
  unfold totSt at hs
  have l0 : (markSt S k).data.length = S.data.length := marksI_len _ _
  have l1 : (markSt S k).ret.length = S.ret.length := marksS_len _ _
  have l2 : (markSt S k).mem.length = S.mem.length := marksI_len _ _
  have l3 : (markSt S k).cells.length = S.cells.length := marksN_len _ _
  have l4 : (markSt S k).vars.length = S.vars.length := marksL_len _ _
  have l5 : (markSt S k).out.length = S.out.length := marksB_len _ _
  have l6 : (markSt S k).inp.length = S.inp.length := marksB_len _ _
  have hform := hr.form
  rw [l0, l1, l2, l3, l4, l5, l6] at hform
  obtain ⟨⟨A0, a0, rfl⟩, ⟨A1, a1, rfl⟩, ⟨A2, a2, rfl⟩, ⟨A3, a3, rfl⟩, ⟨A4, a4, rfl⟩, ⟨A5, a5, rfl⟩, ⟨A6, a6, rfl⟩⟩ := hform
  have HR := Lib.hid (fun W (h : Below w.heap.size w W) => hr.below h)
  have g1 : ¬ (z1 < 0) := by omega
  have g2 : ¬ (z2 < 0) := by omega
  have g3 : ¬ (z3 < 0) := by omega
  have g4 : ¬ (z4 < 0) := by omega
  have g5 : ¬ (z5 < 0) := by omega
  have g6 : ¬ (z6 < 0) := by omega
  have g7 : ¬ (z7 < 0) := by omega
  have Y0 : Hid (z0 = ((k : Nat) : Int)) := Lib.hid (by push_cast; omega)
  have Y1 : Hid (z1 = ((k + S.data.length : Nat) : Int)) := Lib.hid (by push_cast; omega)
  have Y2 : Hid (z2 = ((k + S.data.length + 2 * S.ret.length : Nat) : Int)) := Lib.hid (by push_cast; omega)
  have Y3 : Hid (z3 = ((k + S.data.length + 2 * S.ret.length + S.mem.length : Nat) : Int)) := Lib.hid (by push_cast; omega)
  have Y4 : Hid (z4 = ((k + S.data.length + 2 * S.ret.length + S.mem.length + S.cells.length : Nat) : Int)) := Lib.hid (by push_cast; omega)
  have Y5 : Hid (z5 = ((k + S.data.length + 2 * S.ret.length + S.mem.length + S.cells.length + S.vars.length : Nat) : Int)) := Lib.hid (by push_cast; omega)
  have Y6 : Hid (z6 = ((k + S.data.length + 2 * S.ret.length + S.mem.length + S.cells.length + S.vars.length + S.out.length : Nat) : Int)) := Lib.hid (by push_cast; omega)
  have B0 : Hid (k ≤ 4194304) := Lib.hid (by omega)
  have N0 : Hid (S.data.length ≤ 4194304) := Lib.hid (by omega)
  have B1 : Hid (k + S.data.length ≤ 4194304) := Lib.hid (by omega)
  have N1 : Hid (S.ret.length ≤ 4194304) := Lib.hid (by omega)
  have B2 : Hid (k + S.data.length + 2 * S.ret.length ≤ 4194304) := Lib.hid (by omega)
  have N2 : Hid (S.mem.length ≤ 4194304) := Lib.hid (by omega)
  have B3 : Hid (k + S.data.length + 2 * S.ret.length + S.mem.length ≤ 4194304) := Lib.hid (by omega)
  have N3 : Hid (S.cells.length ≤ 4194304) := Lib.hid (by omega)
  have B4 : Hid (k + S.data.length + 2 * S.ret.length + S.mem.length + S.cells.length ≤ 4194304) := Lib.hid (by omega)
  have N4 : Hid (S.vars.length ≤ 4194304) := Lib.hid (by omega)
  have B5 : Hid (k + S.data.length + 2 * S.ret.length + S.mem.length + S.cells.length + S.vars.length ≤ 4194304) := Lib.hid (by omega)
  have N5 : Hid (S.out.length ≤ 4194304) := Lib.hid (by omega)
  have B6 : Hid (k + S.data.length + 2 * S.ret.length + S.mem.length + S.cells.length + S.vars.length + S.out.length ≤ 4194304) := Lib.hid (by omega)
  have N6 : Hid (S.inp.length ≤ 4194304) := Lib.hid (by omega)
  have E1 := Lib.hid e1
  have E2 := Lib.hid e2
  have E3 := Lib.hid e3
  have E4 := Lib.hid e4
  have E5 := Lib.hid e5
  have E6 := Lib.hid e6
  have E7 := Lib.hid e7
  clear hr l0 l1 l2 l3 l4 l5 l6 e0 e1 e2 e3 e4 e5 e6 e7 hs h1
  go_enter Tryz.func26, Tryz.ntmps26
  go_wp2_with fail
  refine (hdzI _ S.data.length z0 z1 (k) Y0.out E1.out B0.out N0.out _ (HR.out _ (below_alloc w _)).d).mono ?_
  rintro e w1 ⟨rfl, hb1⟩
  obtain ⟨kb1, hB1, hz1⟩ := boxes1 hb1
  obtain ⟨p1_0, p1_1, p1_2, p1_3, p1_4, p1_5, p1_6, p1_7, p1_8, p1_9⟩ := st_cells kb1
  have KB1 := Lib.hid kb1
  have BE1 : Hid (Below w.heap.size w w1) := Lib.hid hB1
  clear kb1 hb1 hB1 hz1
  go_wp2_with fail
  refine (hdzS _ S.ret.length z1 z2 (k + S.data.length) Y1.out E2.out B1.out N1.out _ (HR.out _ BE1.out).r).mono ?_
  rintro e w2 ⟨rfl, hb2⟩
  have kb2 := KB1.out.below hb2 KB1.out.lt
  have hB2 := BE1.out.trans (hb2.mono BE1.out.size)
  obtain ⟨p2_0, p2_1, p2_2, p2_3, p2_4, p2_5, p2_6, p2_7, p2_8, p2_9⟩ := st_cells kb2
  have KB2 := Lib.hid kb2
  have BE2 : Hid (Below w.heap.size w w2) := Lib.hid hB2
  clear kb2 hb2 hB2 KB1 BE1 p1_0 p1_1 p1_2 p1_3 p1_4 p1_5 p1_6 p1_7 p1_8 p1_9
  go_wp2_with fail
  refine (hdzI _ S.mem.length z2 z3 (k + S.data.length + 2 * S.ret.length) Y2.out E3.out B2.out N2.out _ (HR.out _ BE2.out).m).mono ?_
  rintro e w3 ⟨rfl, hb3⟩
  have kb3 := KB2.out.below hb3 KB2.out.lt
  have hB3 := BE2.out.trans (hb3.mono BE2.out.size)
  obtain ⟨p3_0, p3_1, p3_2, p3_3, p3_4, p3_5, p3_6, p3_7, p3_8, p3_9⟩ := st_cells kb3
  have KB3 := Lib.hid kb3
  have BE3 : Hid (Below w.heap.size w w3) := Lib.hid hB3
  clear kb3 hb3 hB3 KB2 BE2 p2_0 p2_1 p2_2 p2_3 p2_4 p2_5 p2_6 p2_7 p2_8 p2_9
  go_wp2_with fail
  refine (hdzN _ S.cells.length z3 z4 (k + S.data.length + 2 * S.ret.length + S.mem.length) Y3.out E4.out B3.out N3.out _ (HR.out _ BE3.out).c).mono ?_
  rintro e w4 ⟨rfl, hb4⟩
  have kb4 := KB3.out.below hb4 KB3.out.lt
  have hB4 := BE3.out.trans (hb4.mono BE3.out.size)
  obtain ⟨p4_0, p4_1, p4_2, p4_3, p4_4, p4_5, p4_6, p4_7, p4_8, p4_9⟩ := st_cells kb4
  have KB4 := Lib.hid kb4
  have BE4 : Hid (Below w.heap.size w w4) := Lib.hid hB4
  clear kb4 hb4 hB4 KB3 BE3 p3_0 p3_1 p3_2 p3_3 p3_4 p3_5 p3_6 p3_7 p3_8 p3_9
  go_wp2_with fail
  refine (hdzL _ S.vars.length z4 z5 (k + S.data.length + 2 * S.ret.length + S.mem.length + S.cells.length) Y4.out E5.out B4.out N4.out _ (HR.out _ BE4.out).v).mono ?_
  rintro e w5 ⟨rfl, hb5⟩
  have kb5 := KB4.out.below hb5 KB4.out.lt
  have hB5 := BE4.out.trans (hb5.mono BE4.out.size)
  obtain ⟨p5_0, p5_1, p5_2, p5_3, p5_4, p5_5, p5_6, p5_7, p5_8, p5_9⟩ := st_cells kb5
  have KB5 := Lib.hid kb5
  have BE5 : Hid (Below w.heap.size w w5) := Lib.hid hB5
  clear kb5 hb5 hB5 KB4 BE4 p4_0 p4_1 p4_2 p4_3 p4_4 p4_5 p4_6 p4_7 p4_8 p4_9
  go_wp2_with fail
  refine (hdzB _ S.out.length z5 z6 (k + S.data.length + 2 * S.ret.length + S.mem.length + S.cells.length + S.vars.length) Y5.out E6.out B5.out N5.out _ (HR.out _ BE5.out).o).mono ?_
  rintro e w6 ⟨rfl, hb6⟩
  have kb6 := KB5.out.below hb6 KB5.out.lt
  have hB6 := BE5.out.trans (hb6.mono BE5.out.size)
  obtain ⟨p6_0, p6_1, p6_2, p6_3, p6_4, p6_5, p6_6, p6_7, p6_8, p6_9⟩ := st_cells kb6
  have KB6 := Lib.hid kb6
  have BE6 : Hid (Below w.heap.size w w6) := Lib.hid hB6
  clear kb6 hb6 hB6 KB5 BE5 p5_0 p5_1 p5_2 p5_3 p5_4 p5_5 p5_6 p5_7 p5_8 p5_9
  go_wp2_with fail
  refine (hdzB _ S.inp.length z6 z7 (k + S.data.length + 2 * S.ret.length + S.mem.length + S.cells.length + S.vars.length + S.out.length) Y6.out E7.out B6.out N6.out _ (HR.out _ BE6.out).i).mono ?_
  rintro e w7 ⟨rfl, hb7⟩
  have kb7 := KB6.out.below hb7 KB6.out.lt
  have hB7 := BE6.out.trans (hb7.mono BE6.out.size)
  obtain ⟨p7_0, p7_1, p7_2, p7_3, p7_4, p7_5, p7_6, p7_7, p7_8, p7_9⟩ := st_cells kb7
  have KB7 := Lib.hid kb7
  have BE7 : Hid (Below w.heap.size w w7) := Lib.hid hB7
  clear kb7 hb7 hB7 KB6 BE6 p6_0 p6_1 p6_2 p6_3 p6_4 p6_5 p6_6 p6_7 p6_8 p6_9
  go_wp2_with fail
  go_ret
  exact ⟨rfl, BE7.out⟩
theorem heldst_any (d r m c v o i : Value) (S : S8) (k : Nat) (h1 : k ≤ 100000) (hs : totSt S ≤ 4000000) (w : World) (hr : RdSt w d r m c v o i (markSt S k)) :
    Calls Tryz.prog 26 #[.agg #[d, r, .int .i32 S.a, m, c, v, o, i, .int .i64 S.fault, .int .i64 S.fuel], .int .i64 k] w fun e w' => e = .returned (.int .i64 ((k : Int) + (totSt S : Int))) ∧ Below w.heap.size w w' :=
  (heldst_z d r m c v o i S k _ _ _ _ _ _ _ _ rfl rfl rfl rfl rfl rfl rfl rfl h1 hs w hr).mono fun e w' h => ⟨h.1.trans (ret_i64 (by unfold totSt; push_cast; omega)), h.2⟩
theorem heldst1 (d r m c v o i : Value) (S : S8) (hs : totSt S ≤ 4000000) (w : World) (hr : RdSt w d r m c v o i (markSt S 1)) :
    Calls Tryz.prog 26 #[.agg #[d, r, .int .i32 S.a, m, c, v, o, i, .int .i64 S.fault, .int .i64 S.fuel], .int .i64 1] w fun e w' => e = .returned (.int .i64 (1 + (totSt S : Int))) ∧ Below w.heap.size w w' := heldst_any d r m c v o i S 1 (by omega) hs w hr
end Go.Proofs.YtdiaiflleiebfaaGreatDoor
