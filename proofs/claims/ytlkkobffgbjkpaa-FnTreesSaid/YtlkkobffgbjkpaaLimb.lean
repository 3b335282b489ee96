/-
  The tree that an op begins, as a limb; what is in one.
-/
import Derived.Test.YtlkkobffgbjkpaaOpOk
import Derived.Test.YtlkkobffgbjkpaaBlk
import Derived.Deep.RegionHeld3
import Derived.Handy
namespace Go.Proofs.Ytlkkobffgbjkpaa
open Go.RowKit Go

set_option maxHeartbeats 1000000 in
theorem bare_any (k n : Int) (w : World) : Calls Try.prog 93 #[.agg #[.int .i64 k, .int .i32 n]] w fun e w' => e = .returned (.agg #[.int .i64 k, .int .i32 n, .slice none 0 0]) ∧ Below w.heap.size w w' := by
  go_enter Try.func93, Try.ntmps93
  go_wp2
  exact bodyPost_ret (v := .agg #[.int .i64 k, .int .i32 n, .slice none 0 0]) (by simp [results, Try.results93, go_sem]) rfl ⟨rfl, by go_grown⟩
set_option maxHeartbeats 2000000 in
theorem limb_if (n : Int) (q : Bool) (hq : okOp (3, n) = q) (hn0 : -2147483648 ≤ n) (hn1 : n ≤ 2147483647) (w : World) : Calls Try.prog 94 #[.agg #[.int .i64 3, .int .i32 n, .slice none 0 0]] w fun e w' => e = .returned (.tuple #[.iface 149 (.agg #[.int .i64 3, .int .i32 n, .slice none 0 0]), .bool q]) ∧ Below w.heap.size w w' := by
  have HO := Lib.hid (fun W => impl_opok 3 n hn0 hn1 W)
  rw [hq] at HO
  have hbx : Below w.heap.size w ((w.alloc (.cells #[.int .i64 3, .int .i32 n, .slice none 0 0] 83)).alloc (.cells #[.int .i64 3, .int .i32 n] 75)) := (below_alloc1 w _).alloc (below_alloc1 w _).size _
  have k0 := ((Blk.new w 83 #[.int .i64 3, .int .i32 n, .slice none 0 0]).alloc (.cells #[.int .i64 3, .int .i32 n] 75))
  have k1 := Blk.new (w.alloc (.cells #[.int .i64 3, .int .i32 n, .slice none 0 0] 83)) 75 #[.int .i64 3, .int .i32 n]
  rw [World.size_alloc] at k1
  have HS : Hid (∀ W, Below ((w.alloc (.cells #[.int .i64 3, .int .i32 n, .slice none 0 0] 83)).alloc (.cells #[.int .i64 3, .int .i32 n] 75)).heap.size ((w.alloc (.cells #[.int .i64 3, .int .i32 n, .slice none 0 0] 83)).alloc (.cells #[.int .i64 3, .int .i32 n] 75)) W → W.cell? ⟨w.heap.size + 1, 0, none⟩ = some (.int .i64 3) ∧ W.cell? ⟨w.heap.size + 1, 1, none⟩ = some (.int .i32 n) ∧ W.cell? ⟨w.heap.size, 2, none⟩ = some (.slice none 0 0)) := Lib.hid (fun W h => ⟨(k1.below h k1.lt).cell 0, (k1.below h k1.lt).cell 1, (k0.below h k0.lt).cell 2⟩)
  have HBX := Lib.hid hbx
  have HBD : Hid (Below ((w.alloc (.cells #[.int .i64 3, .int .i32 n, .slice none 0 0] 83)).alloc (.cells #[.int .i64 3, .int .i32 n] 75)).heap.size ((w.alloc (.cells #[.int .i64 3, .int .i32 n, .slice none 0 0] 83)).alloc (.cells #[.int .i64 3, .int .i32 n] 75)) ((w.alloc (.cells #[.int .i64 3, .int .i32 n, .slice none 0 0] 83)).alloc (.cells #[.int .i64 3, .int .i32 n] 75)).drew) := Lib.hid (Below.refl _ _).drew
  clear hq hbx k0 k1 hn0 hn1
  go_enter Try.func94, Try.ntmps94
  go_wp2_with fail
  go_region_held3 (fun W => W.cell? ⟨w.heap.size + 1, 0, none⟩ = some (.int .i64 3) ∧ W.cell? ⟨w.heap.size + 1, 1, none⟩ = some (.int .i32 n) ∧ W.cell? ⟨w.heap.size, 2, none⟩ = some (.slice none 0 0)) (first | exact HS.out _ (Below.refl _ _) | exact HS.out _ HBD.out | go_keep | exact HS.out _ (HBD.out.trans (hb2.mono HBD.out.size))) (first | (go_at_call 116; refine (HO.out _).mono ?_; rintro e w2 ⟨rfl, hb2⟩))
  go_wp2
  go_ret2
  exact ⟨rfl, HBX.out.trans ((HBD.out.trans (hb2.mono HBD.out.size)).mono HBX.out.size)⟩
set_option maxHeartbeats 2000000 in
theorem limb_unless (n : Int) (q : Bool) (hq : okOp (4, n) = q) (hn0 : -2147483648 ≤ n) (hn1 : n ≤ 2147483647) (w : World) : Calls Try.prog 94 #[.agg #[.int .i64 4, .int .i32 n, .slice none 0 0]] w fun e w' => e = .returned (.tuple #[.iface 149 (.agg #[.int .i64 4, .int .i32 n, .slice none 0 0]), .bool q]) ∧ Below w.heap.size w w' := by
  have HO := Lib.hid (fun W => impl_opok 4 n hn0 hn1 W)
  rw [hq] at HO
  have hbx : Below w.heap.size w ((w.alloc (.cells #[.int .i64 4, .int .i32 n, .slice none 0 0] 83)).alloc (.cells #[.int .i64 4, .int .i32 n] 75)) := (below_alloc1 w _).alloc (below_alloc1 w _).size _
  have k0 := ((Blk.new w 83 #[.int .i64 4, .int .i32 n, .slice none 0 0]).alloc (.cells #[.int .i64 4, .int .i32 n] 75))
  have k1 := Blk.new (w.alloc (.cells #[.int .i64 4, .int .i32 n, .slice none 0 0] 83)) 75 #[.int .i64 4, .int .i32 n]
  rw [World.size_alloc] at k1
  have HS : Hid (∀ W, Below ((w.alloc (.cells #[.int .i64 4, .int .i32 n, .slice none 0 0] 83)).alloc (.cells #[.int .i64 4, .int .i32 n] 75)).heap.size ((w.alloc (.cells #[.int .i64 4, .int .i32 n, .slice none 0 0] 83)).alloc (.cells #[.int .i64 4, .int .i32 n] 75)) W → W.cell? ⟨w.heap.size + 1, 0, none⟩ = some (.int .i64 4) ∧ W.cell? ⟨w.heap.size + 1, 1, none⟩ = some (.int .i32 n) ∧ W.cell? ⟨w.heap.size, 2, none⟩ = some (.slice none 0 0)) := Lib.hid (fun W h => ⟨(k1.below h k1.lt).cell 0, (k1.below h k1.lt).cell 1, (k0.below h k0.lt).cell 2⟩)
  have HBX := Lib.hid hbx
  have HBD : Hid (Below ((w.alloc (.cells #[.int .i64 4, .int .i32 n, .slice none 0 0] 83)).alloc (.cells #[.int .i64 4, .int .i32 n] 75)).heap.size ((w.alloc (.cells #[.int .i64 4, .int .i32 n, .slice none 0 0] 83)).alloc (.cells #[.int .i64 4, .int .i32 n] 75)) ((w.alloc (.cells #[.int .i64 4, .int .i32 n, .slice none 0 0] 83)).alloc (.cells #[.int .i64 4, .int .i32 n] 75)).drew) := Lib.hid (Below.refl _ _).drew
  clear hq hbx k0 k1 hn0 hn1
  go_enter Try.func94, Try.ntmps94
  go_wp2_with fail
  go_region_held3 (fun W => W.cell? ⟨w.heap.size + 1, 0, none⟩ = some (.int .i64 4) ∧ W.cell? ⟨w.heap.size + 1, 1, none⟩ = some (.int .i32 n) ∧ W.cell? ⟨w.heap.size, 2, none⟩ = some (.slice none 0 0)) (first | exact HS.out _ (Below.refl _ _) | exact HS.out _ HBD.out | go_keep | exact HS.out _ (HBD.out.trans (hb2.mono HBD.out.size))) (first | (go_at_call 116; refine (HO.out _).mono ?_; rintro e w2 ⟨rfl, hb2⟩))
  go_wp2
  go_ret2
  exact ⟨rfl, HBX.out.trans ((HBD.out.trans (hb2.mono HBD.out.size)).mono HBX.out.size)⟩
set_option maxHeartbeats 2000000 in
theorem limb_for (n : Int) (q : Bool) (hq : okOp (6, n) = q) (hn0 : -2147483648 ≤ n) (hn1 : n ≤ 2147483647) (w : World) : Calls Try.prog 94 #[.agg #[.int .i64 6, .int .i32 n, .slice none 0 0]] w fun e w' => e = .returned (.tuple #[.iface 150 (.agg #[.int .i64 6, .int .i32 n, .slice none 0 0]), .bool q]) ∧ Below w.heap.size w w' := by
  have HO := Lib.hid (fun W => impl_opok 6 n hn0 hn1 W)
  rw [hq] at HO
  have hbx : Below w.heap.size w ((w.alloc (.cells #[.int .i64 6, .int .i32 n, .slice none 0 0] 83)).alloc (.cells #[.int .i64 6, .int .i32 n] 75)) := (below_alloc1 w _).alloc (below_alloc1 w _).size _
  have k0 := ((Blk.new w 83 #[.int .i64 6, .int .i32 n, .slice none 0 0]).alloc (.cells #[.int .i64 6, .int .i32 n] 75))
  have k1 := Blk.new (w.alloc (.cells #[.int .i64 6, .int .i32 n, .slice none 0 0] 83)) 75 #[.int .i64 6, .int .i32 n]
  rw [World.size_alloc] at k1
  have HS : Hid (∀ W, Below ((w.alloc (.cells #[.int .i64 6, .int .i32 n, .slice none 0 0] 83)).alloc (.cells #[.int .i64 6, .int .i32 n] 75)).heap.size ((w.alloc (.cells #[.int .i64 6, .int .i32 n, .slice none 0 0] 83)).alloc (.cells #[.int .i64 6, .int .i32 n] 75)) W → W.cell? ⟨w.heap.size + 1, 0, none⟩ = some (.int .i64 6) ∧ W.cell? ⟨w.heap.size + 1, 1, none⟩ = some (.int .i32 n) ∧ W.cell? ⟨w.heap.size, 2, none⟩ = some (.slice none 0 0)) := Lib.hid (fun W h => ⟨(k1.below h k1.lt).cell 0, (k1.below h k1.lt).cell 1, (k0.below h k0.lt).cell 2⟩)
  have HBX := Lib.hid hbx
  have HBD : Hid (Below ((w.alloc (.cells #[.int .i64 6, .int .i32 n, .slice none 0 0] 83)).alloc (.cells #[.int .i64 6, .int .i32 n] 75)).heap.size ((w.alloc (.cells #[.int .i64 6, .int .i32 n, .slice none 0 0] 83)).alloc (.cells #[.int .i64 6, .int .i32 n] 75)) ((w.alloc (.cells #[.int .i64 6, .int .i32 n, .slice none 0 0] 83)).alloc (.cells #[.int .i64 6, .int .i32 n] 75)).drew) := Lib.hid (Below.refl _ _).drew
  clear hq hbx k0 k1 hn0 hn1
  go_enter Try.func94, Try.ntmps94
  go_wp2_with fail
  go_region_held3 (fun W => W.cell? ⟨w.heap.size + 1, 0, none⟩ = some (.int .i64 6) ∧ W.cell? ⟨w.heap.size + 1, 1, none⟩ = some (.int .i32 n) ∧ W.cell? ⟨w.heap.size, 2, none⟩ = some (.slice none 0 0)) (first | exact HS.out _ (Below.refl _ _) | exact HS.out _ HBD.out | go_keep | exact HS.out _ (HBD.out.trans (hb2.mono HBD.out.size))) (first | (go_at_call 116; refine (HO.out _).mono ?_; rintro e w2 ⟨rfl, hb2⟩))
  go_wp2
  go_ret2
  exact ⟨rfl, HBX.out.trans ((HBD.out.trans (hb2.mono HBD.out.size)).mono HBX.out.size)⟩
set_option maxHeartbeats 1000000 in
theorem limb_end5 (n : Int) (w : World) : Calls Try.prog 94 #[.agg #[.int .i64 5, .int .i32 n, .slice none 0 0]] w fun e w' => e = .returned (.tuple #[.nilIface, .bool false]) ∧ Below w.heap.size w w' := by
  go_enter Try.func94, Try.ntmps94
  go_wp2
  go_ret2
  exact ⟨rfl, by go_grown⟩
set_option maxHeartbeats 1000000 in
theorem limb_end7 (n : Int) (w : World) : Calls Try.prog 94 #[.agg #[.int .i64 7, .int .i32 n, .slice none 0 0]] w fun e w' => e = .returned (.tuple #[.nilIface, .bool false]) ∧ Below w.heap.size w w' := by
  go_enter Try.func94, Try.ntmps94
  go_wp2
  go_ret2
  exact ⟨rfl, by go_grown⟩
set_option maxHeartbeats 2000000 in
theorem limb_leaf_true (k n : Int) (h3 : k ≠ 3 ∧ k ≠ 4 ∧ k ≠ 5 ∧ k ≠ 6 ∧ k ≠ 7) (hq : okOp (k, n) = true) (hn0 : -2147483648 ≤ n) (hn1 : n ≤ 2147483647) (w : World) : Calls Try.prog 94 #[.agg #[.int .i64 k, .int .i32 n, .slice none 0 0]] w fun e w' => e = .returned (.tuple #[.iface 152 (.agg #[.int .i64 k, .int .i32 n]), .bool true]) ∧ Below w.heap.size w w' := by
  have HO := Lib.hid (fun W => impl_opok k n hn0 hn1 W)
  rw [hq] at HO
  have q5 : (k == 5) = false := by simp; omega
  have q7 : (k == 7) = false := by simp; omega
  have q3 : (k == 3) = false := by simp; omega
  have q4 : (k == 4) = false := by simp; omega
  have q6 : (k == 6) = false := by simp; omega
  clear h3
  have hbx : Below w.heap.size w ((w.alloc (.cells #[.int .i64 k, .int .i32 n, .slice none 0 0] 83)).alloc (.cells #[.int .i64 k, .int .i32 n] 75)) := (below_alloc1 w _).alloc (below_alloc1 w _).size _
  have k0 := ((Blk.new w 83 #[.int .i64 k, .int .i32 n, .slice none 0 0]).alloc (.cells #[.int .i64 k, .int .i32 n] 75))
  have k1 := Blk.new (w.alloc (.cells #[.int .i64 k, .int .i32 n, .slice none 0 0] 83)) 75 #[.int .i64 k, .int .i32 n]
  rw [World.size_alloc] at k1
  have HS : Hid (∀ W, Below ((w.alloc (.cells #[.int .i64 k, .int .i32 n, .slice none 0 0] 83)).alloc (.cells #[.int .i64 k, .int .i32 n] 75)).heap.size ((w.alloc (.cells #[.int .i64 k, .int .i32 n, .slice none 0 0] 83)).alloc (.cells #[.int .i64 k, .int .i32 n] 75)) W → W.cell? ⟨w.heap.size + 1, 0, none⟩ = some (.int .i64 k) ∧ W.cell? ⟨w.heap.size + 1, 1, none⟩ = some (.int .i32 n) ∧ W.cell? ⟨w.heap.size, 2, none⟩ = some (.slice none 0 0)) := Lib.hid (fun W h => ⟨(k1.below h k1.lt).cell 0, (k1.below h k1.lt).cell 1, (k0.below h k0.lt).cell 2⟩)
  have HBX := Lib.hid hbx
  have HBD : Hid (Below ((w.alloc (.cells #[.int .i64 k, .int .i32 n, .slice none 0 0] 83)).alloc (.cells #[.int .i64 k, .int .i32 n] 75)).heap.size ((w.alloc (.cells #[.int .i64 k, .int .i32 n, .slice none 0 0] 83)).alloc (.cells #[.int .i64 k, .int .i32 n] 75)) ((w.alloc (.cells #[.int .i64 k, .int .i32 n, .slice none 0 0] 83)).alloc (.cells #[.int .i64 k, .int .i32 n] 75)).drew) := Lib.hid (Below.refl _ _).drew
  clear hq hbx k0 k1 hn0 hn1
  go_enter Try.func94, Try.ntmps94
  go_wp2_with fail
  go_region_held3 (fun W => W.cell? ⟨w.heap.size + 1, 0, none⟩ = some (.int .i64 k) ∧ W.cell? ⟨w.heap.size + 1, 1, none⟩ = some (.int .i32 n) ∧ W.cell? ⟨w.heap.size, 2, none⟩ = some (.slice none 0 0)) (first | exact HS.out _ (Below.refl _ _) | exact HS.out _ HBD.out | go_keep | exact HS.out _ (HBD.out.trans (hb2.mono HBD.out.size))) (first | (go_at_call 116; refine (HO.out _).mono ?_; rintro e w2 ⟨rfl, hb2⟩))
  go_wp2
  go_ret2
  exact ⟨rfl, HBX.out.trans ((HBD.out.trans (hb2.mono HBD.out.size)).mono HBX.out.size)⟩
set_option maxHeartbeats 2000000 in
theorem limb_leaf_false (k n : Int) (h3 : k ≠ 3 ∧ k ≠ 4 ∧ k ≠ 5 ∧ k ≠ 6 ∧ k ≠ 7) (hq : okOp (k, n) = false) (hn0 : -2147483648 ≤ n) (hn1 : n ≤ 2147483647) (w : World) : Calls Try.prog 94 #[.agg #[.int .i64 k, .int .i32 n, .slice none 0 0]] w fun e w' => e = .returned (.tuple #[.iface 152 (.agg #[.int .i64 k, .int .i32 n]), .bool false]) ∧ Below w.heap.size w w' := by
  have HO := Lib.hid (fun W => impl_opok k n hn0 hn1 W)
  rw [hq] at HO
  have q5 : (k == 5) = false := by simp; omega
  have q7 : (k == 7) = false := by simp; omega
  have q3 : (k == 3) = false := by simp; omega
  have q4 : (k == 4) = false := by simp; omega
  have q6 : (k == 6) = false := by simp; omega
  clear h3
  have hbx : Below w.heap.size w ((w.alloc (.cells #[.int .i64 k, .int .i32 n, .slice none 0 0] 83)).alloc (.cells #[.int .i64 k, .int .i32 n] 75)) := (below_alloc1 w _).alloc (below_alloc1 w _).size _
  have k0 := ((Blk.new w 83 #[.int .i64 k, .int .i32 n, .slice none 0 0]).alloc (.cells #[.int .i64 k, .int .i32 n] 75))
  have k1 := Blk.new (w.alloc (.cells #[.int .i64 k, .int .i32 n, .slice none 0 0] 83)) 75 #[.int .i64 k, .int .i32 n]
  rw [World.size_alloc] at k1
  have HS : Hid (∀ W, Below ((w.alloc (.cells #[.int .i64 k, .int .i32 n, .slice none 0 0] 83)).alloc (.cells #[.int .i64 k, .int .i32 n] 75)).heap.size ((w.alloc (.cells #[.int .i64 k, .int .i32 n, .slice none 0 0] 83)).alloc (.cells #[.int .i64 k, .int .i32 n] 75)) W → W.cell? ⟨w.heap.size + 1, 0, none⟩ = some (.int .i64 k) ∧ W.cell? ⟨w.heap.size + 1, 1, none⟩ = some (.int .i32 n) ∧ W.cell? ⟨w.heap.size, 2, none⟩ = some (.slice none 0 0)) := Lib.hid (fun W h => ⟨(k1.below h k1.lt).cell 0, (k1.below h k1.lt).cell 1, (k0.below h k0.lt).cell 2⟩)
  have HBX := Lib.hid hbx
  have HBD : Hid (Below ((w.alloc (.cells #[.int .i64 k, .int .i32 n, .slice none 0 0] 83)).alloc (.cells #[.int .i64 k, .int .i32 n] 75)).heap.size ((w.alloc (.cells #[.int .i64 k, .int .i32 n, .slice none 0 0] 83)).alloc (.cells #[.int .i64 k, .int .i32 n] 75)) ((w.alloc (.cells #[.int .i64 k, .int .i32 n, .slice none 0 0] 83)).alloc (.cells #[.int .i64 k, .int .i32 n] 75)).drew) := Lib.hid (Below.refl _ _).drew
  clear hq hbx k0 k1 hn0 hn1
  go_enter Try.func94, Try.ntmps94
  go_wp2_with fail
  obtain ⟨cc0, cc1, cc2⟩ := HS.out _ (Below.refl _ _)
  first | (go_region_with (go_at_call 116; refine (HO.out _).mono ?_; rintro e w2 ⟨rfl, hb2⟩; obtain ⟨d0, d1, d2⟩ := HS.out _ (HBD.out.trans (hb2.mono HBD.out.size)))) | fail
  all_goals go_wp2
  all_goals go_ret2
  all_goals exact ⟨rfl, HBX.out.trans ((HBD.out.trans (hb2.mono HBD.out.size)).mono HBX.out.size)⟩
set_option maxRecDepth 100000 in
set_option maxHeartbeats 1000000 in
theorem inside_fork (k n : Int) (w : World) : Calls Try.prog 95 #[.iface 149 (.agg #[.int .i64 k, .int .i32 n, .slice none 0 0])] w fun e w' => e = .returned (.tuple #[.slice none 0 0, .agg #[.int .i64 5, .int .i32 0], .bool true]) ∧ Below w.heap.size w w' := by
  have t_fork_fork : ∀ W, (Instr.typeAssert (.iface 149 (.agg #[.int .i64 k, .int .i32 n, .slice none 0 0])) 126 149 true).run Try.prog W = .ok (.tuple #[.agg #[.int .i64 k, .int .i32 n, .slice none 0 0], .bool true]) W := fun _ => by kernel_rfl
  go_enter Try.func95, Try.ntmps95
  go_wp2
  exact bodyPost_ret (v := .tuple #[.slice none 0 0, .agg #[.int .i64 5, .int .i32 0], .bool true]) (by simp [results, Try.results95, go_sem]) rfl ⟨rfl, by go_grown⟩
set_option maxRecDepth 100000 in
set_option maxHeartbeats 1000000 in
theorem inside_loop (k n : Int) (w : World) : Calls Try.prog 95 #[.iface 150 (.agg #[.int .i64 k, .int .i32 n, .slice none 0 0])] w fun e w' => e = .returned (.tuple #[.slice none 0 0, .agg #[.int .i64 7, .int .i32 0], .bool true]) ∧ Below w.heap.size w w' := by
  have t_loop_fork : ∀ W, (Instr.typeAssert (.iface 150 (.agg #[.int .i64 k, .int .i32 n, .slice none 0 0])) 126 149 true).run Try.prog W = .ok (.tuple #[.agg #[.int .i64 0, .int .i32 0, .slice none 0 0], .bool false]) W := fun _ => by kernel_rfl
  have t_loop_loop : ∀ W, (Instr.typeAssert (.iface 150 (.agg #[.int .i64 k, .int .i32 n, .slice none 0 0])) 126 150 true).run Try.prog W = .ok (.tuple #[.agg #[.int .i64 k, .int .i32 n, .slice none 0 0], .bool true]) W := fun _ => by kernel_rfl
  go_enter Try.func95, Try.ntmps95
  go_wp2
  exact bodyPost_ret (v := .tuple #[.slice none 0 0, .agg #[.int .i64 7, .int .i32 0], .bool true]) (by simp [results, Try.results95, go_sem]) rfl ⟨rfl, by go_grown⟩
set_option maxRecDepth 100000 in
set_option maxHeartbeats 1000000 in
theorem inside_leaf (k n : Int) (w : World) : Calls Try.prog 95 #[.iface 152 (.agg #[.int .i64 k, .int .i32 n])] w fun e w' => e = .returned (.tuple #[.slice none 0 0, .agg #[.int .i64 0, .int .i32 0], .bool false]) ∧ Below w.heap.size w w' := by
  have t_leaf_fork : ∀ W, (Instr.typeAssert (.iface 152 (.agg #[.int .i64 k, .int .i32 n])) 126 149 true).run Try.prog W = .ok (.tuple #[.agg #[.int .i64 0, .int .i32 0, .slice none 0 0], .bool false]) W := fun _ => by kernel_rfl
  have t_leaf_loop : ∀ W, (Instr.typeAssert (.iface 152 (.agg #[.int .i64 k, .int .i32 n])) 126 150 true).run Try.prog W = .ok (.tuple #[.agg #[.int .i64 0, .int .i32 0, .slice none 0 0], .bool false]) W := fun _ => by kernel_rfl
  go_enter Try.func95, Try.ntmps95
  go_wp2
  exact bodyPost_ret (v := .tuple #[.slice none 0 0, .agg #[.int .i64 0, .int .i32 0], .bool false]) (by simp [results, Try.results95, go_sem]) rfl ⟨rfl, by go_grown⟩
end Go.Proofs.Ytlkkobffgbjkpaa
