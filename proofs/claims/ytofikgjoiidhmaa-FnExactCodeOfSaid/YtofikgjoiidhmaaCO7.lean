/-
  The tree that an op begins, as a limb; what is in one.
  limbOf by cases; whether two ops are alike.
  impl.awaited.
  impl.ShapeOk.
  impl.DefsOk.
-/
import Derived.Test.YtofikgjoiidhmaaCO6
import Derived.Test.YtofikgjoiidhmaaCO1
import Derived.Deep.RegionHeld3
import Derived.Handy
import Derived.Laws.StructEq
import Derived.Test.YtofikgjoiidhmaaCO2
namespace Go.Proofs.Ytofikgjoiidhmaa
open Go.RowKit Go

set_option maxHeartbeats 1000000 in
theorem bare_any (k n : Int) (w : World) : Calls Try.prog 67 #[.agg #[.int .i64 k, .int .i32 n]] w fun e w' => e = .returned (.agg #[.int .i64 k, .int .i32 n, .slice none 0 0]) ∧ Below w.heap.size w w' := by
  go_enter Try.func67, Try.ntmps67
  go_wp2
  exact bodyPost_ret (v := .agg #[.int .i64 k, .int .i32 n, .slice none 0 0]) (by simp [results, Try.results67, go_sem]) rfl ⟨rfl, by go_grown⟩
set_option maxHeartbeats 2000000 in
theorem limb_if (n : Int) (q : Bool) (hq : okOp (3, n) = q) (hn0 : -2147483648 ≤ n) (hn1 : n ≤ 2147483647) (w : World) : Calls Try.prog 66 #[.agg #[.int .i64 3, .int .i32 n, .slice none 0 0]] w fun e w' => e = .returned (.tuple #[.iface 114 (.agg #[.int .i64 3, .int .i32 n, .slice none 0 0]), .bool q]) ∧ Below w.heap.size w w' := by
  have HO := Lib.hid (fun W => impl_opok 3 n hn0 hn1 W)
  rw [hq] at HO
  have hbx : Below w.heap.size w ((w.alloc (.cells #[.int .i64 3, .int .i32 n, .slice none 0 0] 77)).alloc (.cells #[.int .i64 3, .int .i32 n] 75)) := (below_alloc1 w _).alloc (below_alloc1 w _).size _
  have k0 := ((Blk.new w 77 #[.int .i64 3, .int .i32 n, .slice none 0 0]).alloc (.cells #[.int .i64 3, .int .i32 n] 75))
  have k1 := Blk.new (w.alloc (.cells #[.int .i64 3, .int .i32 n, .slice none 0 0] 77)) 75 #[.int .i64 3, .int .i32 n]
  rw [World.size_alloc] at k1
  have HS : Hid (∀ W, Below ((w.alloc (.cells #[.int .i64 3, .int .i32 n, .slice none 0 0] 77)).alloc (.cells #[.int .i64 3, .int .i32 n] 75)).heap.size ((w.alloc (.cells #[.int .i64 3, .int .i32 n, .slice none 0 0] 77)).alloc (.cells #[.int .i64 3, .int .i32 n] 75)) W → W.cell? ⟨w.heap.size + 1, 0, none⟩ = some (.int .i64 3) ∧ W.cell? ⟨w.heap.size + 1, 1, none⟩ = some (.int .i32 n) ∧ W.cell? ⟨w.heap.size, 2, none⟩ = some (.slice none 0 0)) := Lib.hid (fun W h => ⟨(k1.below h k1.lt).cell 0, (k1.below h k1.lt).cell 1, (k0.below h k0.lt).cell 2⟩)
  have HBX := Lib.hid hbx
  have HBD : Hid (Below ((w.alloc (.cells #[.int .i64 3, .int .i32 n, .slice none 0 0] 77)).alloc (.cells #[.int .i64 3, .int .i32 n] 75)).heap.size ((w.alloc (.cells #[.int .i64 3, .int .i32 n, .slice none 0 0] 77)).alloc (.cells #[.int .i64 3, .int .i32 n] 75)) ((w.alloc (.cells #[.int .i64 3, .int .i32 n, .slice none 0 0] 77)).alloc (.cells #[.int .i64 3, .int .i32 n] 75)).drew) := Lib.hid (Below.refl _ _).drew
  clear hq hbx k0 k1 hn0 hn1
  go_enter Try.func66, Try.ntmps66
  go_wp2_with fail
  go_region_held3 (fun W => W.cell? ⟨w.heap.size + 1, 0, none⟩ = some (.int .i64 3) ∧ W.cell? ⟨w.heap.size + 1, 1, none⟩ = some (.int .i32 n) ∧ W.cell? ⟨w.heap.size, 2, none⟩ = some (.slice none 0 0)) (first | exact HS.out _ (Below.refl _ _) | exact HS.out _ HBD.out | go_keep | exact HS.out _ (HBD.out.trans (hb2.mono HBD.out.size))) (first | (go_at_call 73; refine (HO.out _).mono ?_; rintro e w2 ⟨rfl, hb2⟩))
  go_wp2
  go_ret2
  exact ⟨rfl, HBX.out.trans ((HBD.out.trans (hb2.mono HBD.out.size)).mono HBX.out.size)⟩
set_option maxHeartbeats 2000000 in
theorem limb_unless (n : Int) (q : Bool) (hq : okOp (4, n) = q) (hn0 : -2147483648 ≤ n) (hn1 : n ≤ 2147483647) (w : World) : Calls Try.prog 66 #[.agg #[.int .i64 4, .int .i32 n, .slice none 0 0]] w fun e w' => e = .returned (.tuple #[.iface 114 (.agg #[.int .i64 4, .int .i32 n, .slice none 0 0]), .bool q]) ∧ Below w.heap.size w w' := by
  have HO := Lib.hid (fun W => impl_opok 4 n hn0 hn1 W)
  rw [hq] at HO
  have hbx : Below w.heap.size w ((w.alloc (.cells #[.int .i64 4, .int .i32 n, .slice none 0 0] 77)).alloc (.cells #[.int .i64 4, .int .i32 n] 75)) := (below_alloc1 w _).alloc (below_alloc1 w _).size _
  have k0 := ((Blk.new w 77 #[.int .i64 4, .int .i32 n, .slice none 0 0]).alloc (.cells #[.int .i64 4, .int .i32 n] 75))
  have k1 := Blk.new (w.alloc (.cells #[.int .i64 4, .int .i32 n, .slice none 0 0] 77)) 75 #[.int .i64 4, .int .i32 n]
  rw [World.size_alloc] at k1
  have HS : Hid (∀ W, Below ((w.alloc (.cells #[.int .i64 4, .int .i32 n, .slice none 0 0] 77)).alloc (.cells #[.int .i64 4, .int .i32 n] 75)).heap.size ((w.alloc (.cells #[.int .i64 4, .int .i32 n, .slice none 0 0] 77)).alloc (.cells #[.int .i64 4, .int .i32 n] 75)) W → W.cell? ⟨w.heap.size + 1, 0, none⟩ = some (.int .i64 4) ∧ W.cell? ⟨w.heap.size + 1, 1, none⟩ = some (.int .i32 n) ∧ W.cell? ⟨w.heap.size, 2, none⟩ = some (.slice none 0 0)) := Lib.hid (fun W h => ⟨(k1.below h k1.lt).cell 0, (k1.below h k1.lt).cell 1, (k0.below h k0.lt).cell 2⟩)
  have HBX := Lib.hid hbx
  have HBD : Hid (Below ((w.alloc (.cells #[.int .i64 4, .int .i32 n, .slice none 0 0] 77)).alloc (.cells #[.int .i64 4, .int .i32 n] 75)).heap.size ((w.alloc (.cells #[.int .i64 4, .int .i32 n, .slice none 0 0] 77)).alloc (.cells #[.int .i64 4, .int .i32 n] 75)) ((w.alloc (.cells #[.int .i64 4, .int .i32 n, .slice none 0 0] 77)).alloc (.cells #[.int .i64 4, .int .i32 n] 75)).drew) := Lib.hid (Below.refl _ _).drew
  clear hq hbx k0 k1 hn0 hn1
  go_enter Try.func66, Try.ntmps66
  go_wp2_with fail
  go_region_held3 (fun W => W.cell? ⟨w.heap.size + 1, 0, none⟩ = some (.int .i64 4) ∧ W.cell? ⟨w.heap.size + 1, 1, none⟩ = some (.int .i32 n) ∧ W.cell? ⟨w.heap.size, 2, none⟩ = some (.slice none 0 0)) (first | exact HS.out _ (Below.refl _ _) | exact HS.out _ HBD.out | go_keep | exact HS.out _ (HBD.out.trans (hb2.mono HBD.out.size))) (first | (go_at_call 73; refine (HO.out _).mono ?_; rintro e w2 ⟨rfl, hb2⟩))
  go_wp2
  go_ret2
  exact ⟨rfl, HBX.out.trans ((HBD.out.trans (hb2.mono HBD.out.size)).mono HBX.out.size)⟩
set_option maxHeartbeats 2000000 in
theorem limb_for (n : Int) (q : Bool) (hq : okOp (6, n) = q) (hn0 : -2147483648 ≤ n) (hn1 : n ≤ 2147483647) (w : World) : Calls Try.prog 66 #[.agg #[.int .i64 6, .int .i32 n, .slice none 0 0]] w fun e w' => e = .returned (.tuple #[.iface 115 (.agg #[.int .i64 6, .int .i32 n, .slice none 0 0]), .bool q]) ∧ Below w.heap.size w w' := by
  have HO := Lib.hid (fun W => impl_opok 6 n hn0 hn1 W)
  rw [hq] at HO
  have hbx : Below w.heap.size w ((w.alloc (.cells #[.int .i64 6, .int .i32 n, .slice none 0 0] 77)).alloc (.cells #[.int .i64 6, .int .i32 n] 75)) := (below_alloc1 w _).alloc (below_alloc1 w _).size _
  have k0 := ((Blk.new w 77 #[.int .i64 6, .int .i32 n, .slice none 0 0]).alloc (.cells #[.int .i64 6, .int .i32 n] 75))
  have k1 := Blk.new (w.alloc (.cells #[.int .i64 6, .int .i32 n, .slice none 0 0] 77)) 75 #[.int .i64 6, .int .i32 n]
  rw [World.size_alloc] at k1
  have HS : Hid (∀ W, Below ((w.alloc (.cells #[.int .i64 6, .int .i32 n, .slice none 0 0] 77)).alloc (.cells #[.int .i64 6, .int .i32 n] 75)).heap.size ((w.alloc (.cells #[.int .i64 6, .int .i32 n, .slice none 0 0] 77)).alloc (.cells #[.int .i64 6, .int .i32 n] 75)) W → W.cell? ⟨w.heap.size + 1, 0, none⟩ = some (.int .i64 6) ∧ W.cell? ⟨w.heap.size + 1, 1, none⟩ = some (.int .i32 n) ∧ W.cell? ⟨w.heap.size, 2, none⟩ = some (.slice none 0 0)) := Lib.hid (fun W h => ⟨(k1.below h k1.lt).cell 0, (k1.below h k1.lt).cell 1, (k0.below h k0.lt).cell 2⟩)
  have HBX := Lib.hid hbx
  have HBD : Hid (Below ((w.alloc (.cells #[.int .i64 6, .int .i32 n, .slice none 0 0] 77)).alloc (.cells #[.int .i64 6, .int .i32 n] 75)).heap.size ((w.alloc (.cells #[.int .i64 6, .int .i32 n, .slice none 0 0] 77)).alloc (.cells #[.int .i64 6, .int .i32 n] 75)) ((w.alloc (.cells #[.int .i64 6, .int .i32 n, .slice none 0 0] 77)).alloc (.cells #[.int .i64 6, .int .i32 n] 75)).drew) := Lib.hid (Below.refl _ _).drew
  clear hq hbx k0 k1 hn0 hn1
  go_enter Try.func66, Try.ntmps66
  go_wp2_with fail
  go_region_held3 (fun W => W.cell? ⟨w.heap.size + 1, 0, none⟩ = some (.int .i64 6) ∧ W.cell? ⟨w.heap.size + 1, 1, none⟩ = some (.int .i32 n) ∧ W.cell? ⟨w.heap.size, 2, none⟩ = some (.slice none 0 0)) (first | exact HS.out _ (Below.refl _ _) | exact HS.out _ HBD.out | go_keep | exact HS.out _ (HBD.out.trans (hb2.mono HBD.out.size))) (first | (go_at_call 73; refine (HO.out _).mono ?_; rintro e w2 ⟨rfl, hb2⟩))
  go_wp2
  go_ret2
  exact ⟨rfl, HBX.out.trans ((HBD.out.trans (hb2.mono HBD.out.size)).mono HBX.out.size)⟩
set_option maxHeartbeats 1000000 in
theorem limb_end5 (n : Int) (w : World) : Calls Try.prog 66 #[.agg #[.int .i64 5, .int .i32 n, .slice none 0 0]] w fun e w' => e = .returned (.tuple #[.nilIface, .bool false]) ∧ Below w.heap.size w w' := by
  go_enter Try.func66, Try.ntmps66
  go_wp2
  go_ret2
  exact ⟨rfl, by go_grown⟩
set_option maxHeartbeats 1000000 in
theorem limb_end7 (n : Int) (w : World) : Calls Try.prog 66 #[.agg #[.int .i64 7, .int .i32 n, .slice none 0 0]] w fun e w' => e = .returned (.tuple #[.nilIface, .bool false]) ∧ Below w.heap.size w w' := by
  go_enter Try.func66, Try.ntmps66
  go_wp2
  go_ret2
  exact ⟨rfl, by go_grown⟩
set_option maxHeartbeats 2000000 in
theorem limb_leaf_true (k n : Int) (h3 : k ≠ 3 ∧ k ≠ 4 ∧ k ≠ 5 ∧ k ≠ 6 ∧ k ≠ 7) (hq : okOp (k, n) = true) (hn0 : -2147483648 ≤ n) (hn1 : n ≤ 2147483647) (w : World) : Calls Try.prog 66 #[.agg #[.int .i64 k, .int .i32 n, .slice none 0 0]] w fun e w' => e = .returned (.tuple #[.iface 117 (.agg #[.int .i64 k, .int .i32 n]), .bool true]) ∧ Below w.heap.size w w' := by
  have HO := Lib.hid (fun W => impl_opok k n hn0 hn1 W)
  rw [hq] at HO
  have q5 : (k == 5) = false := by simp; omega
  have q7 : (k == 7) = false := by simp; omega
  have q3 : (k == 3) = false := by simp; omega
  have q4 : (k == 4) = false := by simp; omega
  have q6 : (k == 6) = false := by simp; omega
  clear h3
  have hbx : Below w.heap.size w ((w.alloc (.cells #[.int .i64 k, .int .i32 n, .slice none 0 0] 77)).alloc (.cells #[.int .i64 k, .int .i32 n] 75)) := (below_alloc1 w _).alloc (below_alloc1 w _).size _
  have k0 := ((Blk.new w 77 #[.int .i64 k, .int .i32 n, .slice none 0 0]).alloc (.cells #[.int .i64 k, .int .i32 n] 75))
  have k1 := Blk.new (w.alloc (.cells #[.int .i64 k, .int .i32 n, .slice none 0 0] 77)) 75 #[.int .i64 k, .int .i32 n]
  rw [World.size_alloc] at k1
  have HS : Hid (∀ W, Below ((w.alloc (.cells #[.int .i64 k, .int .i32 n, .slice none 0 0] 77)).alloc (.cells #[.int .i64 k, .int .i32 n] 75)).heap.size ((w.alloc (.cells #[.int .i64 k, .int .i32 n, .slice none 0 0] 77)).alloc (.cells #[.int .i64 k, .int .i32 n] 75)) W → W.cell? ⟨w.heap.size + 1, 0, none⟩ = some (.int .i64 k) ∧ W.cell? ⟨w.heap.size + 1, 1, none⟩ = some (.int .i32 n) ∧ W.cell? ⟨w.heap.size, 2, none⟩ = some (.slice none 0 0)) := Lib.hid (fun W h => ⟨(k1.below h k1.lt).cell 0, (k1.below h k1.lt).cell 1, (k0.below h k0.lt).cell 2⟩)
  have HBX := Lib.hid hbx
  have HBD : Hid (Below ((w.alloc (.cells #[.int .i64 k, .int .i32 n, .slice none 0 0] 77)).alloc (.cells #[.int .i64 k, .int .i32 n] 75)).heap.size ((w.alloc (.cells #[.int .i64 k, .int .i32 n, .slice none 0 0] 77)).alloc (.cells #[.int .i64 k, .int .i32 n] 75)) ((w.alloc (.cells #[.int .i64 k, .int .i32 n, .slice none 0 0] 77)).alloc (.cells #[.int .i64 k, .int .i32 n] 75)).drew) := Lib.hid (Below.refl _ _).drew
  clear hq hbx k0 k1 hn0 hn1
  go_enter Try.func66, Try.ntmps66
  go_wp2_with fail
  go_region_held3 (fun W => W.cell? ⟨w.heap.size + 1, 0, none⟩ = some (.int .i64 k) ∧ W.cell? ⟨w.heap.size + 1, 1, none⟩ = some (.int .i32 n) ∧ W.cell? ⟨w.heap.size, 2, none⟩ = some (.slice none 0 0)) (first | exact HS.out _ (Below.refl _ _) | exact HS.out _ HBD.out | go_keep | exact HS.out _ (HBD.out.trans (hb2.mono HBD.out.size))) (first | (go_at_call 73; refine (HO.out _).mono ?_; rintro e w2 ⟨rfl, hb2⟩))
  go_wp2
  go_ret2
  exact ⟨rfl, HBX.out.trans ((HBD.out.trans (hb2.mono HBD.out.size)).mono HBX.out.size)⟩
set_option maxHeartbeats 2000000 in
theorem limb_leaf_false (k n : Int) (h3 : k ≠ 3 ∧ k ≠ 4 ∧ k ≠ 5 ∧ k ≠ 6 ∧ k ≠ 7) (hq : okOp (k, n) = false) (hn0 : -2147483648 ≤ n) (hn1 : n ≤ 2147483647) (w : World) : Calls Try.prog 66 #[.agg #[.int .i64 k, .int .i32 n, .slice none 0 0]] w fun e w' => e = .returned (.tuple #[.iface 117 (.agg #[.int .i64 k, .int .i32 n]), .bool false]) ∧ Below w.heap.size w w' := by
  have HO := Lib.hid (fun W => impl_opok k n hn0 hn1 W)
  rw [hq] at HO
  have q5 : (k == 5) = false := by simp; omega
  have q7 : (k == 7) = false := by simp; omega
  have q3 : (k == 3) = false := by simp; omega
  have q4 : (k == 4) = false := by simp; omega
  have q6 : (k == 6) = false := by simp; omega
  clear h3
  have hbx : Below w.heap.size w ((w.alloc (.cells #[.int .i64 k, .int .i32 n, .slice none 0 0] 77)).alloc (.cells #[.int .i64 k, .int .i32 n] 75)) := (below_alloc1 w _).alloc (below_alloc1 w _).size _
  have k0 := ((Blk.new w 77 #[.int .i64 k, .int .i32 n, .slice none 0 0]).alloc (.cells #[.int .i64 k, .int .i32 n] 75))
  have k1 := Blk.new (w.alloc (.cells #[.int .i64 k, .int .i32 n, .slice none 0 0] 77)) 75 #[.int .i64 k, .int .i32 n]
  rw [World.size_alloc] at k1
  have HS : Hid (∀ W, Below ((w.alloc (.cells #[.int .i64 k, .int .i32 n, .slice none 0 0] 77)).alloc (.cells #[.int .i64 k, .int .i32 n] 75)).heap.size ((w.alloc (.cells #[.int .i64 k, .int .i32 n, .slice none 0 0] 77)).alloc (.cells #[.int .i64 k, .int .i32 n] 75)) W → W.cell? ⟨w.heap.size + 1, 0, none⟩ = some (.int .i64 k) ∧ W.cell? ⟨w.heap.size + 1, 1, none⟩ = some (.int .i32 n) ∧ W.cell? ⟨w.heap.size, 2, none⟩ = some (.slice none 0 0)) := Lib.hid (fun W h => ⟨(k1.below h k1.lt).cell 0, (k1.below h k1.lt).cell 1, (k0.below h k0.lt).cell 2⟩)
  have HBX := Lib.hid hbx
  have HBD : Hid (Below ((w.alloc (.cells #[.int .i64 k, .int .i32 n, .slice none 0 0] 77)).alloc (.cells #[.int .i64 k, .int .i32 n] 75)).heap.size ((w.alloc (.cells #[.int .i64 k, .int .i32 n, .slice none 0 0] 77)).alloc (.cells #[.int .i64 k, .int .i32 n] 75)) ((w.alloc (.cells #[.int .i64 k, .int .i32 n, .slice none 0 0] 77)).alloc (.cells #[.int .i64 k, .int .i32 n] 75)).drew) := Lib.hid (Below.refl _ _).drew
  clear hq hbx k0 k1 hn0 hn1
  go_enter Try.func66, Try.ntmps66
  go_wp2_with fail
  obtain ⟨cc0, cc1, cc2⟩ := HS.out _ (Below.refl _ _)
  first | (go_region_with (go_at_call 73; refine (HO.out _).mono ?_; rintro e w2 ⟨rfl, hb2⟩; obtain ⟨d0, d1, d2⟩ := HS.out _ (HBD.out.trans (hb2.mono HBD.out.size)))) | fail
  all_goals go_wp2
  all_goals go_ret2
  all_goals exact ⟨rfl, HBX.out.trans ((HBD.out.trans (hb2.mono HBD.out.size)).mono HBX.out.size)⟩
set_option maxRecDepth 100000 in
set_option maxHeartbeats 1000000 in
theorem inside_fork (k n : Int) (w : World) : Calls Try.prog 69 #[.iface 114 (.agg #[.int .i64 k, .int .i32 n, .slice none 0 0])] w fun e w' => e = .returned (.tuple #[.slice none 0 0, .agg #[.int .i64 5, .int .i32 0], .bool true]) ∧ Below w.heap.size w w' := by
  have t_fork_fork : ∀ W, (Instr.typeAssert (.iface 114 (.agg #[.int .i64 k, .int .i32 n, .slice none 0 0])) 105 114 true).run Try.prog W = .ok (.tuple #[.agg #[.int .i64 k, .int .i32 n, .slice none 0 0], .bool true]) W := fun _ => by kernel_rfl
  go_enter Try.func69, Try.ntmps69
  go_wp2
  exact bodyPost_ret (v := .tuple #[.slice none 0 0, .agg #[.int .i64 5, .int .i32 0], .bool true]) (by simp [results, Try.results69, go_sem]) rfl ⟨rfl, by go_grown⟩
set_option maxRecDepth 100000 in
set_option maxHeartbeats 1000000 in
theorem inside_loop (k n : Int) (w : World) : Calls Try.prog 69 #[.iface 115 (.agg #[.int .i64 k, .int .i32 n, .slice none 0 0])] w fun e w' => e = .returned (.tuple #[.slice none 0 0, .agg #[.int .i64 7, .int .i32 0], .bool true]) ∧ Below w.heap.size w w' := by
  have t_loop_fork : ∀ W, (Instr.typeAssert (.iface 115 (.agg #[.int .i64 k, .int .i32 n, .slice none 0 0])) 105 114 true).run Try.prog W = .ok (.tuple #[.agg #[.int .i64 0, .int .i32 0, .slice none 0 0], .bool false]) W := fun _ => by kernel_rfl
  have t_loop_loop : ∀ W, (Instr.typeAssert (.iface 115 (.agg #[.int .i64 k, .int .i32 n, .slice none 0 0])) 105 115 true).run Try.prog W = .ok (.tuple #[.agg #[.int .i64 k, .int .i32 n, .slice none 0 0], .bool true]) W := fun _ => by kernel_rfl
  go_enter Try.func69, Try.ntmps69
  go_wp2
  exact bodyPost_ret (v := .tuple #[.slice none 0 0, .agg #[.int .i64 7, .int .i32 0], .bool true]) (by simp [results, Try.results69, go_sem]) rfl ⟨rfl, by go_grown⟩
set_option maxRecDepth 100000 in
set_option maxHeartbeats 1000000 in
theorem inside_leaf (k n : Int) (w : World) : Calls Try.prog 69 #[.iface 117 (.agg #[.int .i64 k, .int .i32 n])] w fun e w' => e = .returned (.tuple #[.slice none 0 0, .agg #[.int .i64 0, .int .i32 0], .bool false]) ∧ Below w.heap.size w w' := by
  have t_leaf_fork : ∀ W, (Instr.typeAssert (.iface 117 (.agg #[.int .i64 k, .int .i32 n])) 105 114 true).run Try.prog W = .ok (.tuple #[.agg #[.int .i64 0, .int .i32 0, .slice none 0 0], .bool false]) W := fun _ => by kernel_rfl
  have t_leaf_loop : ∀ W, (Instr.typeAssert (.iface 117 (.agg #[.int .i64 k, .int .i32 n])) 105 115 true).run Try.prog W = .ok (.tuple #[.agg #[.int .i64 0, .int .i32 0, .slice none 0 0], .bool false]) W := fun _ => by kernel_rfl
  go_enter Try.func69, Try.ntmps69
  go_wp2
  exact bodyPost_ret (v := .tuple #[.slice none 0 0, .agg #[.int .i64 0, .int .i32 0], .bool false]) (by simp [results, Try.results69, go_sem]) rfl ⟨rfl, by go_grown⟩
end Go.Proofs.Ytofikgjoiidhmaa

namespace Go.Proofs.Ytofikgjoiidhmaa
open Go.RowKit Go

theorem wait_open {o : Int × Int} {r : List (Int × Int)} {st : List Int} (h : okOp o = true) (h3 : o.1 = 3 ∨ o.1 = 4 ∨ o.1 = 6) : waitG (o :: r) st = waitG r (st ++ [o.1]) := by rw [waitG, if_pos ⟨h, by omega, by omega⟩, if_pos h3]
theorem wait_leaf {o : Int × Int} {r : List (Int × Int)} {st : List Int} (h : okOp o = true) (h3 : o.1 ≠ 3 ∧ o.1 ≠ 4 ∧ o.1 ≠ 5 ∧ o.1 ≠ 6 ∧ o.1 ≠ 7) : waitG (o :: r) st = waitG r st := by rw [waitG, if_pos ⟨h, h3.2.2.1, h3.2.2.2.2⟩, if_neg (by omega)]
theorem wait_none {o : Int × Int} {r : List (Int × Int)} (h : ¬ (okOp o = true ∧ o.1 ≠ 5 ∧ o.1 ≠ 7)) : waitG (o :: r) [] = none := by rw [waitG, if_neg h]; rfl
theorem wait_pop {o : Int × Int} {r : List (Int × Int)} {st : List Int} {q : Int} (h : ¬ (okOp o = true ∧ o.1 ≠ 5 ∧ o.1 ≠ 7)) : waitG (o :: r) (st ++ [q]) = if endOf q = o then waitG r st else none := by
  rw [waitG, if_neg h]
  simp
/-- An op that begins nothing. -/
theorem limb_none (k n : Int) (h : ¬ (okOp (k, n) = true ∧ k ≠ 5 ∧ k ≠ 7)) (hn0 : -2147483648 ≤ n) (hn1 : n ≤ 2147483647) (w : World) : Calls Try.prog 66 #[.agg #[.int .i64 k, .int .i32 n, .slice none 0 0]] w fun e w' => (∃ t u, e = .returned (.tuple #[.iface t u, .bool false]) ∨ e = .returned (.tuple #[.nilIface, .bool false])) ∧ Below w.heap.size w w' := by
  by_cases h5 : k = 5
  · subst h5
    exact (limb_end5 n w).mono fun e w' ⟨h1, h2⟩ => ⟨⟨0, .bool false, .inr h1⟩, h2⟩
  by_cases h7 : k = 7
  · subst h7
    exact (limb_end7 n w).mono fun e w' ⟨h1, h2⟩ => ⟨⟨0, .bool false, .inr h1⟩, h2⟩
  have hq : okOp (k, n) = false := by
    cases hh : okOp (k, n) with
    | false => rfl
    | true => exact absurd ⟨hh, h5, h7⟩ h
  by_cases h3 : k = 3
  · subst h3
    exact (limb_if n false hq hn0 hn1 w).mono fun e w' ⟨h1, h2⟩ => ⟨⟨_, _, .inl h1⟩, h2⟩
  by_cases h4 : k = 4
  · subst h4
    exact (limb_unless n false hq hn0 hn1 w).mono fun e w' ⟨h1, h2⟩ => ⟨⟨_, _, .inl h1⟩, h2⟩
  by_cases h6 : k = 6
  · subst h6
    exact (limb_for n false hq hn0 hn1 w).mono fun e w' ⟨h1, h2⟩ => ⟨⟨_, _, .inl h1⟩, h2⟩
  exact (limb_leaf_false k n ⟨h3, h4, h5, h6, h7⟩ hq hn0 hn1 w).mono fun e w' ⟨h1, h2⟩ => ⟨⟨_, _, .inl h1⟩, h2⟩
set_option maxRecDepth 100000 in
theorem op_neq (w : World) (k1 n1 k2 n2 : Int) : (binOp .neq 75 (.agg #[.int .i64 k1, .int .i32 n1]) (.agg #[.int .i64 k2, .int .i32 n2])).run Try.prog w = .ok (.bool (!decide ((k1, n1) = (k2, n2)))) w := by
  have h : (binOp .neq 75 (.agg #[.int .i64 k1, .int .i32 n1]) (.agg #[.int .i64 k2, .int .i32 n2])).run Try.prog w = .ok (.bool (!(k1 == k2 && n1 == n2))) w := by
    simp [go_sem, Try.underlying75, Try.underlying3, Try.underlying21]
    (repeat' split) <;> simp_all
  have h2 : (k1 == k2 && n1 == n2) = decide ((k1, n1) = (k2, n2)) := by rw [Bool.eq_iff_iff]; simp
  rw [h, h2]
end Go.Proofs.Ytofikgjoiidhmaa

namespace Go.Proofs.Ytofikgjoiidhmaa
open Go.RowKit Go

/-- What awaited tells. -/
def AwaitEnd (xs : List (Int × Int)) (w : World) (e : Ending) (w' : World) : Prop :=
  (∃ st A cap, waitG xs [] = some st ∧ e = .returned (.tuple #[.slice A st.length cap, .bool true]) ∧ Below w.heap.size w w') ∨ (waitG xs [] = none ∧ e = .returned (.tuple #[.slice none 0 0, .bool false]) ∧ Below w.heap.size w w')
set_option maxRecDepth 100000 in
set_option maxHeartbeats 2000000 in
theorem await_long (xs : List (Int × Int)) (hl : ¬ xs.length ≤ 60) (v : Value) (w : World) (hr : RdS w v xs) : Calls Try.prog 57 #[v] w fun e w' => e = .returned (.tuple #[.slice none 0 0, .bool false]) ∧ Below w.heap.size w w' := by
  obtain ⟨A, cap, rfl⟩ := hr.form
  obtain ⟨N, hN⟩ : ∃ N, xs.length = N := ⟨_, rfl⟩
  rw [hN]
  have h60 : 60 < N := by omega
  have h60' : (60 : Int) < (N : Int) := by omega
  clear hr hl hN
  go_enter Try.func57, Try.ntmps57
  go_wp2_with fail
  go_ret2
  exact ⟨rfl, by go_grown⟩
set_option maxRecDepth 100000 in
set_option maxHeartbeats 8000000 in
theorem await_short (xs : List (Int × Int)) (hl : xs.length ≤ 60) (hrg : RngO xs) (v : Value) (w : World) (hr : RdS w v xs) : Calls Try.prog 57 #[v] w (AwaitEnd xs w) := by
  obtain ⟨R, hR⟩ : ∃ R, waitG xs [] = R := ⟨_, rfl⟩
  unfold AwaitEnd
  rw [hR]
  obtain ⟨A, cap, rfl⟩ := hr.form
  obtain ⟨N, hN⟩ : ∃ N, xs.length = N := ⟨_, rfl⟩
  have HR := Lib.hid (fun W (h : Below w.heap.size w W) => hr.below h)
  have HRR := Lib.hid hR
  have HN := Lib.hid hN
  have HG := Lib.hid hrg
  have ST := Lib.hid (show StackAt (w.alloc (.cells #[.slice none 0 0] 95)) w.heap.size w.heap.size (([] : List Int).map endOf) from ⟨⟨_, Blk.new w _ _, World.ownsRow_nil _ _ _ _⟩, Nat.le_refl _⟩)
  have BEL := Lib.hid (below_alloc1 w (.cells #[.slice none 0 0] 95))
  rw [hN]
  have h60 : N ≤ 60 := by omega
  have h60' : ¬ (60 : Int) < (N : Int) := by omega
  clear hr hrg hR hl hN
  go_enter Try.func57, Try.ntmps57
  go_wp2_with fail
  go_loopw [17] (fun vi wr => ∃ (i : Nat) (st : List Int), vi = .int .i64 i ∧ i ≤ N ∧ st.length ≤ i ∧ Hid (Below w.heap.size w wr) ∧ Hid (waitG (xs.drop i) st = R) ∧ Hid (StackAt wr w.heap.size w.heap.size (st.map endOf))) (fun vi _ => N - (intOf vi).toNat)
  case atStart => exact ⟨0, [], rfl, by omega, by simp, BEL, HRR, ST⟩
  case round =>
    obtain ⟨i, st, rfl, hi, hst, HB, HO, HS⟩ := hrel
    clear HRR ST BEL
    by_cases hp : i < N
    · have hp' : i < xs.length := by rw [HN.out]; exact hp
      obtain ⟨a, rfl, la, p0, p1⟩ := (HR.out wr HB.out).item hp'
      obtain ⟨x, hx⟩ : ∃ x, xs[i] = x := ⟨_, rfl⟩
      have hrx := HG.out x (by rw [← hx]; exact List.getElem_mem hp')
      obtain ⟨k, n⟩ := x
      have hd : xs.drop i = (k, n) :: xs.drop (i + 1) := by rw [List.drop_eq_getElem_cons hp', hx]
      rw [hx] at p0 p1
      rw [hd] at HO
      have i1 : (0 : Int) ≤ (i : Int) := by omega
      have i2 : (i : Int) < (N : Int) := by omega
      have HRX := Lib.hid hrx
      clear hx hd la hp' hrx
      by_cases hb : okOp (k, n) = true ∧ k ≠ 5 ∧ k ≠ 7
      · by_cases h3 : k = 3
        · subst h3
          rw [wait_open hb.1 (by simp)] at HO
          have HSM := Lib.hid (fun W (h : Below wr.heap.size wr W) => HS.out.below h)
          have HLM := Lib.hid (fun W => limb_if n true hb.1 HRX.out.1 HRX.out.2 W)
          have hm : (st.map endOf).length ≤ 1000 := by rw [List.length_map]; omega
          have HM := Lib.hid hm
          clear hm hb HS
          go_wp2_with fail
          refine (bare_any 3 n _).mono ?_
          rintro e w2 ⟨rfl, hb2⟩
          have B2 := Lib.hid ((below_alloc1 wr (.cells #[.int .i64 3, .int .i32 n] 75)).trans (hb2.mono (below_alloc1 wr (.cells #[.int .i64 3, .int .i32 n] 75)).size))
          clear hb2
          go_wp2_with fail
          refine (HLM.out _).mono ?_
          rintro e w3 ⟨rfl, hb3⟩
          have B3 := Lib.hid (B2.out.trans (hb3.mono B2.out.size))
          clear hb3 B2 p0 p1
          go_wp2_with fail
          refine (inside_fork 3 n _).mono ?_
          rintro e w4 ⟨rfl, hb4⟩
          have B4 := Lib.hid (B3.out.trans (hb4.mono B3.out.size))
          clear hb4 B3
          go_wp2_with fail
          have B5 := Lib.hid (B4.out.alloc B4.out.size (.cells #[.int .i64 5, .int .i32 0] 75))
          refine (push_any w.heap.size w.heap.size (st.map endOf) 5 0 _ HM.out (HSM.out _ B5.out)).mono ?_
          rintro e w5 ⟨rfl, hs5, hb5⟩
          have HB6 := Lib.hid ((HB.out.trans (B5.out.mono HB.out.size)).trans hb5)
          have HS6 : Hid (StackAt w5 w.heap.size w.heap.size ((st ++ [3]).map endOf)) := Lib.hid (by rw [List.map_append]; exact hs5)
          clear hs5 hb5 B5 HSM HLM HM HB
          go_wp2_with fail
          go_roundw
          case rel => exact ⟨i + 1, st ++ [3], by go_num, by omega, by rw [List.length_append]; simp; omega, HB6, HO, HS6⟩
          case measure => simp [intOf]; omega
        by_cases h3 : k = 4
        · subst h3
          rw [wait_open hb.1 (by simp)] at HO
          have HSM := Lib.hid (fun W (h : Below wr.heap.size wr W) => HS.out.below h)
          have HLM := Lib.hid (fun W => limb_unless n true hb.1 HRX.out.1 HRX.out.2 W)
          have hm : (st.map endOf).length ≤ 1000 := by rw [List.length_map]; omega
          have HM := Lib.hid hm
          clear hm hb HS
          go_wp2_with fail
          refine (bare_any 4 n _).mono ?_
          rintro e w2 ⟨rfl, hb2⟩
          have B2 := Lib.hid ((below_alloc1 wr (.cells #[.int .i64 4, .int .i32 n] 75)).trans (hb2.mono (below_alloc1 wr (.cells #[.int .i64 4, .int .i32 n] 75)).size))
          clear hb2
          go_wp2_with fail
          refine (HLM.out _).mono ?_
          rintro e w3 ⟨rfl, hb3⟩
          have B3 := Lib.hid (B2.out.trans (hb3.mono B2.out.size))
          clear hb3 B2 p0 p1
          go_wp2_with fail
          refine (inside_fork 4 n _).mono ?_
          rintro e w4 ⟨rfl, hb4⟩
          have B4 := Lib.hid (B3.out.trans (hb4.mono B3.out.size))
          clear hb4 B3
          go_wp2_with fail
          have B5 := Lib.hid (B4.out.alloc B4.out.size (.cells #[.int .i64 5, .int .i32 0] 75))
          refine (push_any w.heap.size w.heap.size (st.map endOf) 5 0 _ HM.out (HSM.out _ B5.out)).mono ?_
          rintro e w5 ⟨rfl, hs5, hb5⟩
          have HB6 := Lib.hid ((HB.out.trans (B5.out.mono HB.out.size)).trans hb5)
          have HS6 : Hid (StackAt w5 w.heap.size w.heap.size ((st ++ [4]).map endOf)) := Lib.hid (by rw [List.map_append]; exact hs5)
          clear hs5 hb5 B5 HSM HLM HM HB
          go_wp2_with fail
          go_roundw
          case rel => exact ⟨i + 1, st ++ [4], by go_num, by omega, by rw [List.length_append]; simp; omega, HB6, HO, HS6⟩
          case measure => simp [intOf]; omega
        by_cases h3 : k = 6
        · subst h3
          rw [wait_open hb.1 (by simp)] at HO
          have HSM := Lib.hid (fun W (h : Below wr.heap.size wr W) => HS.out.below h)
          have HLM := Lib.hid (fun W => limb_for n true hb.1 HRX.out.1 HRX.out.2 W)
          have hm : (st.map endOf).length ≤ 1000 := by rw [List.length_map]; omega
          have HM := Lib.hid hm
          clear hm hb HS
          go_wp2_with fail
          refine (bare_any 6 n _).mono ?_
          rintro e w2 ⟨rfl, hb2⟩
          have B2 := Lib.hid ((below_alloc1 wr (.cells #[.int .i64 6, .int .i32 n] 75)).trans (hb2.mono (below_alloc1 wr (.cells #[.int .i64 6, .int .i32 n] 75)).size))
          clear hb2
          go_wp2_with fail
          refine (HLM.out _).mono ?_
          rintro e w3 ⟨rfl, hb3⟩
          have B3 := Lib.hid (B2.out.trans (hb3.mono B2.out.size))
          clear hb3 B2 p0 p1
          go_wp2_with fail
          refine (inside_loop 6 n _).mono ?_
          rintro e w4 ⟨rfl, hb4⟩
          have B4 := Lib.hid (B3.out.trans (hb4.mono B3.out.size))
          clear hb4 B3
          go_wp2_with fail
          have B5 := Lib.hid (B4.out.alloc B4.out.size (.cells #[.int .i64 7, .int .i32 0] 75))
          refine (push_any w.heap.size w.heap.size (st.map endOf) 7 0 _ HM.out (HSM.out _ B5.out)).mono ?_
          rintro e w5 ⟨rfl, hs5, hb5⟩
          have HB6 := Lib.hid ((HB.out.trans (B5.out.mono HB.out.size)).trans hb5)
          have HS6 : Hid (StackAt w5 w.heap.size w.heap.size ((st ++ [6]).map endOf)) := Lib.hid (by rw [List.map_append]; exact hs5)
          clear hs5 hb5 B5 HSM HLM HM HB
          go_wp2_with fail
          go_roundw
          case rel => exact ⟨i + 1, st ++ [6], by go_num, by omega, by rw [List.length_append]; simp; omega, HB6, HO, HS6⟩
          case measure => simp [intOf]; omega
        rename_i n3 n4
        have hk5 : k ≠ 3 ∧ k ≠ 4 ∧ k ≠ 5 ∧ k ≠ 6 ∧ k ≠ 7 := ⟨n3, n4, hb.2.1, h3, hb.2.2⟩
        rw [wait_leaf hb.1 hk5] at HO
        have HSM := Lib.hid (fun W (h : Below wr.heap.size wr W) => HS.out.below h)
        have HLM := Lib.hid (fun W => limb_leaf_true k n hk5 hb.1 HRX.out.1 HRX.out.2 W)
        clear hb hk5 n3 n4 h3 HS
        go_wp2_with fail
        refine (bare_any k n _).mono ?_
        rintro e w2 ⟨rfl, hb2⟩
        have B2 := Lib.hid ((below_alloc1 wr (.cells #[.int .i64 k, .int .i32 n] 75)).trans (hb2.mono (below_alloc1 wr (.cells #[.int .i64 k, .int .i32 n] 75)).size))
        clear hb2
        go_wp2_with fail
        refine (HLM.out _).mono ?_
        rintro e w3 ⟨rfl, hb3⟩
        have B3 := Lib.hid (B2.out.trans (hb3.mono B2.out.size))
        clear hb3 B2 p0 p1
        go_wp2_with fail
        refine (inside_leaf k n _).mono ?_
        rintro e w4 ⟨rfl, hb4⟩
        have B4 := Lib.hid (B3.out.trans (hb4.mono B3.out.size))
        clear hb4 B3
        have B5 := Lib.hid (B4.out.alloc B4.out.size (.cells #[.int .i64 0, .int .i32 0] 75))
        have HS6 := Lib.hid (HSM.out _ B5.out)
        have HB6 := Lib.hid (HB.out.trans (B5.out.mono HB.out.size))
        clear B5 HSM HLM HB
        go_wp2_with fail
        go_roundw
        case rel => exact ⟨i + 1, st, by go_num, by omega, by omega, HB6, HO, HS6⟩
        case measure => simp [intOf]; omega
      · have HLM := Lib.hid (fun W => limb_none k n hb HRX.out.1 HRX.out.2 W)
        have HSM := Lib.hid (fun W (h : Below wr.heap.size wr W) => HS.out.below h)
        have HBOX := Lib.hid (fun W (h : Below (wr.alloc (.cells #[.int .i64 k, .int .i32 n] 75)).heap.size (wr.alloc (.cells #[.int .i64 k, .int .i32 n] 75)) W) => (Blk.new wr 75 #[.int .i64 k, .int .i32 n]).below h (Blk.new wr 75 #[.int .i64 k, .int .i32 n]).lt)
        rcases List.eq_nil_or_concat st with rfl | ⟨l, q, rfl⟩
        · rw [wait_none hb] at HO
          have HE : Hid (R = none) := Lib.hid HO.out.symm
          clear hb HO HS
          go_wp2_with fail
          refine (bare_any k n _).mono ?_
          rintro e w2 ⟨rfl, hb2⟩
          have B2 := Lib.hid ((below_alloc1 wr (.cells #[.int .i64 k, .int .i32 n] 75)).trans (hb2.mono (below_alloc1 wr (.cells #[.int .i64 k, .int .i32 n] 75)).size))
          clear hb2
          go_wp2_with fail
          refine (HLM.out _).mono ?_
          rintro e w3 ⟨⟨t, u, hlm⟩, hb3⟩
          have B3 := Lib.hid (B2.out.trans (hb3.mono B2.out.size))
          clear hb3 B2 p0 p1
          obtain ⟨⟨v3, hv3, ho3⟩, -⟩ := HSM.out _ B3.out
          obtain ⟨A3, c3, rfl⟩ := own_formS ho3
          have e0 : w3.cell? ⟨w.heap.size, 0, none⟩ = some (.slice A3 0 c3) := hv3.cell 0
          have HB6 := Lib.hid (HB.out.trans (B3.out.mono HB.out.size))
          clear hv3 ho3 B3 HSM HBOX HLM HB
          rcases hlm with rfl | rfl
          all_goals
            go_wp2_with fail
            go_quiet (fail)
            go_wp2_with fail
            go_ret2
            exact .inr ⟨HE.out, rfl, by first | exact HB6.out | exact HB6.out.drew | exact below_drewN HB6.out _⟩
        · simp only [List.concat_eq_append] at hst HS HO HSM
          rw [wait_pop hb] at HO
          obtain ⟨m, hm⟩ : ∃ m, l.length = m := ⟨_, rfl⟩
          have hlen : ((l ++ [q]).map endOf).length = m + 1 := by simp [hm]
          have hst2 : m + 1 ≤ i := by have : (l ++ [q]).length = m + 1 := by simp [hm]
                                      omega
          have HM : Hid ((l.map endOf).length ≤ 1000) := Lib.hid (by rw [List.length_map, hm]; omega)
          have HL := Lib.hid hm
          have HNE : Hid (w.heap.size < wr.heap.size) := Lib.hid (by obtain ⟨⟨v3, hv3, -⟩, -⟩ := HS.out; exact hv3.lt)
          have hmb : m ≤ 60 := by omega
          have m0 : ((m : Int) + 1 == 0) = false := by simp; omega
          obtain ⟨oo, hoo⟩ : ∃ oo, endOf q = oo := ⟨_, rfl⟩
          obtain ⟨s0, z0⟩ := oo
          rw [List.map_append, List.map_cons, List.map_nil, hoo] at hlen HSM
          rw [hoo] at HO
          clear hb hst hm hoo HS
          by_cases hq : (s0, z0) = (k, n)
          · rw [if_pos hq] at HO
            have hneq : ∀ W, (binOp .neq 75 (.agg #[.int .i64 s0, .int .i32 z0]) (.agg #[.int .i64 k, .int .i32 n])).run Try.prog W = .ok (.bool false) W := fun W => by rw [op_neq]; simp [hq]
            clear hq
            go_wp2_with fail
            refine (bare_any k n _).mono ?_
            rintro e w2 ⟨rfl, hb2⟩
            have B2a := Lib.hid hb2
            have B2 := Lib.hid ((below_alloc1 wr (.cells #[.int .i64 k, .int .i32 n] 75)).trans (hb2.mono (below_alloc1 wr (.cells #[.int .i64 k, .int .i32 n] 75)).size))
            clear hb2
            go_wp2_with fail
            refine (HLM.out _).mono ?_
            rintro e w3 ⟨⟨t, u, hlm⟩, hb3⟩
            have B3a := Lib.hid (B2a.out.trans (hb3.mono B2a.out.size))
            have B3 := Lib.hid (B2.out.trans (hb3.mono B2.out.size))
            clear hb3 B2 B2a p0 p1
            have HST3 := Lib.hid (HSM.out _ B3.out)
            have HBX3 := Lib.hid (HBOX.out _ B3a.out)
            obtain ⟨⟨v3, hv3, ho3⟩, -⟩ := HST3.out
            obtain ⟨A3, c3, rfl⟩ := own_formS ho3
            rw [hlen] at hv3
            have e0 : w3.cell? ⟨w.heap.size, 0, none⟩ = some (.slice A3 (m + 1) c3) := hv3.cell 0
            have e1 : w3.cell? ⟨wr.heap.size, 0, none⟩ = some (.int .i64 k) := HBX3.out.cell 0
            have e2 : w3.cell? ⟨wr.heap.size, 1, none⟩ = some (.int .i32 n) := HBX3.out.cell 1
            have HPOP := Lib.hid (fun W (h : Below w3.heap.size w3 W) => pop_last w.heap.size w.heap.size (l.map endOf) s0 z0 HM.out W (HST3.out.below h))
            have HBK : Hid (∀ W W', Below w3.heap.size w3 W → W.grownBy W' (some w.heap.size) → Blk W' wr.heap.size 75 #[.int .i64 k, .int .i32 n]) := Lib.hid (fun W W' h1 h2 => (HBX3.out.below h1 HBX3.out.lt).grown h2 (fun e => by injection e with e; have := HNE.out; omega))
            have HB6 := Lib.hid (HB.out.trans (B3.out.mono HB.out.size))
            have BD : Hid (Below w3.heap.size w3 w3.drew) := Lib.hid (Below.refl _ _).drew
            clear hv3 ho3 B3 B3a HSM HBOX HLM HB HST3 HBX3 hlen
            rcases hlm with rfl | rfl
            all_goals
              go_wp2_with fail
              first | (go_region_with (go_at_call 68; refine (HPOP.out _ (by first | exact Below.refl _ _ | exact BD.out)).mono ?_; rintro e w9 ⟨rfl, hs9, hb9, hg9⟩; have HS9 := Lib.hid hs9; have HB9 := Lib.hid hb9; have hx9 := HBK.out _ _ (by first | exact Below.refl _ _ | exact BD.out) hg9; have e1 := hx9.cell 0; have e2 := hx9.cell 1; clear hs9 hb9 hg9 hx9)) | fail
              all_goals
                have HW9 := Lib.hid ((HB6.out.trans (BD.out.mono HB6.out.size)).trans HB9.out)
                go_wp2_with fail
                go_roundw
                case rel => exact ⟨i + 1, l, by go_num, by omega, by have := HL.out; omega, HW9, HO, HS9⟩
                case measure => simp [intOf]; omega
          · rw [if_neg hq] at HO
            have HE : Hid (R = none) := Lib.hid HO.out.symm
            have hneq : ∀ W, (binOp .neq 75 (.agg #[.int .i64 s0, .int .i32 z0]) (.agg #[.int .i64 k, .int .i32 n])).run Try.prog W = .ok (.bool true) W := fun W => by rw [op_neq]; simp [hq]
            clear hq HO
            go_wp2_with fail
            refine (bare_any k n _).mono ?_
            rintro e w2 ⟨rfl, hb2⟩
            have B2a := Lib.hid hb2
            have B2 := Lib.hid ((below_alloc1 wr (.cells #[.int .i64 k, .int .i32 n] 75)).trans (hb2.mono (below_alloc1 wr (.cells #[.int .i64 k, .int .i32 n] 75)).size))
            clear hb2
            go_wp2_with fail
            refine (HLM.out _).mono ?_
            rintro e w3 ⟨⟨t, u, hlm⟩, hb3⟩
            have B3a := Lib.hid (B2a.out.trans (hb3.mono B2a.out.size))
            have B3 := Lib.hid (B2.out.trans (hb3.mono B2.out.size))
            clear hb3 B2 B2a p0 p1
            have HST3 := Lib.hid (HSM.out _ B3.out)
            have HBX3 := Lib.hid (HBOX.out _ B3a.out)
            obtain ⟨⟨v3, hv3, ho3⟩, -⟩ := HST3.out
            obtain ⟨A3, c3, rfl⟩ := own_formS ho3
            rw [hlen] at hv3
            have e0 : w3.cell? ⟨w.heap.size, 0, none⟩ = some (.slice A3 (m + 1) c3) := hv3.cell 0
            have e1 : w3.cell? ⟨wr.heap.size, 0, none⟩ = some (.int .i64 k) := HBX3.out.cell 0
            have e2 : w3.cell? ⟨wr.heap.size, 1, none⟩ = some (.int .i32 n) := HBX3.out.cell 1
            have HPOP := Lib.hid (fun W (h : Below w3.heap.size w3 W) => pop_last w.heap.size w.heap.size (l.map endOf) s0 z0 HM.out W (HST3.out.below h))
            have HBK : Hid (∀ W W', Below w3.heap.size w3 W → W.grownBy W' (some w.heap.size) → Blk W' wr.heap.size 75 #[.int .i64 k, .int .i32 n]) := Lib.hid (fun W W' h1 h2 => (HBX3.out.below h1 HBX3.out.lt).grown h2 (fun e => by injection e with e; have := HNE.out; omega))
            have HB6 := Lib.hid (HB.out.trans (B3.out.mono HB.out.size))
            have BD : Hid (Below w3.heap.size w3 w3.drew) := Lib.hid (Below.refl _ _).drew
            clear hv3 ho3 B3 B3a HSM HBOX HLM HB HST3 HBX3 hlen
            rcases hlm with rfl | rfl
            all_goals
              go_wp2_with fail
              first | (go_region_with (go_at_call 68; refine (HPOP.out _ (by first | exact Below.refl _ _ | exact BD.out)).mono ?_; rintro e w9 ⟨rfl, hs9, hb9, hg9⟩; have HS9 := Lib.hid hs9; have HB9 := Lib.hid hb9; have hx9 := HBK.out _ _ (by first | exact Below.refl _ _ | exact BD.out) hg9; have e1 := hx9.cell 0; have e2 := hx9.cell 1; clear hs9 hb9 hg9 hx9)) | fail
              all_goals
                have HW9 := Lib.hid ((HB6.out.trans (BD.out.mono HB6.out.size)).trans HB9.out)
                go_wp2_with fail
                go_ret2
                exact .inr ⟨HE.out, rfl, HW9.out⟩
    · obtain rfl : i = N := by omega
      have HE : Hid (R = some st) := Lib.hid (by have := HO.out; rw [List.drop_of_length_le (by rw [HN.out]; exact Nat.le_refl _)] at this; exact this.symm)
      obtain ⟨⟨v3, hv3, ho3⟩, -⟩ := HS.out
      obtain ⟨A3, c3, rfl⟩ := own_formS ho3
      rw [List.length_map] at hv3
      have e0 : wr.cell? ⟨w.heap.size, 0, none⟩ = some (.slice A3 st.length c3) := hv3.cell 0
      clear hv3 ho3 HO HS
      go_wp2_with fail
      go_ret2
      exact .inl ⟨st, A3, c3, HE.out, rfl, HB.out⟩
end Go.Proofs.Ytofikgjoiidhmaa

namespace Go.Proofs.Ytofikgjoiidhmaa
open Go.RowKit Go

set_option maxHeartbeats 1000000 in
theorem impl_shape (xs : List (Int × Int)) (hrg : RngO xs) (v : Value) (w : World) (hr : RdS w v xs) : Calls Try.prog 44 #[v] w fun e w' => e = .returned (.bool (shapeB xs)) ∧ Below w.heap.size w w' := by
  rw [shape_wait]
  by_cases hl : xs.length ≤ 60
  · have HC := Lib.hid (await_short xs hl hrg v w hr)
    obtain ⟨R, hR⟩ : ∃ R, (decide (xs.length ≤ 60) && decide (waitG xs [] = some [])) = R := ⟨_, rfl⟩
    rw [hR]
    have HRR := Lib.hid hR
    have HL := Lib.hid hl
    clear hR hl hr hrg
    go_enter Try.func44, Try.ntmps44
    go_wp2_with fail
    refine HC.out.mono ?_
    rintro e w2 (⟨st, A2, c2, ho, rfl, hb2⟩ | ⟨ho, rfl, hb2⟩)
    · have HE : Hid (R = decide (st.length = 0)) := Lib.hid (by
        have h1 := HRR.out
        rw [ho] at h1
        rw [← h1]
        have := HL.out
        simp [this])
      have HB2 := Lib.hid hb2
      obtain ⟨m, hm⟩ : ∃ m, st.length = m := ⟨_, rfl⟩
      rw [hm] at HE ⊢
      clear ho hb2 hm HC HRR
      by_cases h0 : m = 0
      · subst h0
        go_wp2_with fail
        go_ret
        exact ⟨by rw [HE.out]; rfl, HB2.out⟩
      · have q0 : ((m : Int) == 0) = false := by simp; omega
        have HE2 : Hid (R = false) := Lib.hid (by rw [HE.out]; simpa using h0)
        clear HE h0
        go_wp2_with fail
        go_ret
        exact ⟨by rw [HE2.out]; rfl, HB2.out⟩
    · have HE : Hid (R = false) := Lib.hid (by
        have h1 := HRR.out
        rw [ho] at h1
        simpa using h1.symm)
      have HB2 := Lib.hid hb2
      clear ho hb2 HC HRR
      go_wp2_with fail
      go_ret
      exact ⟨by rw [HE.out]; rfl, HB2.out⟩
  · have HC := Lib.hid (await_long xs hl v w hr)
    have hs : (decide (xs.length ≤ 60) && decide (waitG xs [] = some [])) = false := by simp [hl]
    rw [hs]
    clear hs hl hr hrg
    go_enter Try.func44, Try.ntmps44
    go_wp2_with fail
    refine HC.out.mono ?_
    rintro e w2 ⟨rfl, hb2⟩
    have HB2 := Lib.hid hb2
    clear hb2 HC
    go_wp2_with fail
    go_ret
    exact ⟨rfl, HB2.out⟩
end Go.Proofs.Ytofikgjoiidhmaa

namespace Go.Proofs.Ytofikgjoiidhmaa
open Go.RowKit Go

set_option maxRecDepth 100000 in
set_option maxHeartbeats 2000000 in
theorem impl_defs_long (ds : List Df) (hl : ¬ ds.length ≤ 24) (hs : SmD ds) (v : Value) (w : World) (hr : RdD w v ds) : Calls Try.prog 27 #[v] w fun e w' => e = .returned (.bool (okDefs ds)) ∧ Below w.heap.size w w' := by
  have he : okDefs ds = false := by unfold okDefs; simp [hl]
  rw [he]
  obtain ⟨A, cap, rfl⟩ := hr.form
  have hs1 := hs.1
  obtain ⟨N, hN⟩ : ∃ N, ds.length = N := ⟨_, rfl⟩
  rw [hN] at hl hs1 ⊢
  have h60 : 24 < N := by omega
  have h60' : (24 : Int) < (N : Int) := by omega
  clear hr he hl hN hs
  go_enter Try.func27, Try.ntmps27
  go_wp2_with fail
  go_ret
  exact ⟨rfl, by go_grown⟩
set_option maxRecDepth 100000 in
set_option maxHeartbeats 8000000 in
theorem impl_defs_short (ds : List Df) (hl : ds.length ≤ 24) (hs : SmD ds) (v : Value) (w : World) (hr : RdD w v ds) : Calls Try.prog 27 #[v] w fun e w' => e = .returned (.bool (okDefs ds)) ∧ Below w.heap.size w w' := by
  obtain ⟨R, hR⟩ : ∃ R, okDefs ds = R := ⟨_, rfl⟩
  rw [hR]
  obtain ⟨A, cap, rfl⟩ := hr.form
  have HR := Lib.hid (fun W (h : Below w.heap.size w W) => hr.below h)
  have HEND := Lib.hid (fun h => (okDefs_all hl h).symm.trans hR)
  have HNO := Lib.hid (fun i (hi : i < ds.length) h => hR.symm.trans (okDefs_not (ds := ds) hi h))
  have HST := Lib.hid (fun i (hi : i < ds.length) => all_step (p := okDf ds.length) hi)
  have HSM := Lib.hid hs.2
  obtain ⟨N, hN⟩ : ∃ N, ds.length = N := ⟨_, rfl⟩
  rw [hN] at HEND
  have HN := Lib.hid hN
  rw [hN] at hl ⊢
  have h24 : ¬ (24 : Int) < (N : Int) := by omega
  clear hr hs hR hN
  go_enter Try.func27, Try.ntmps27
  go_wp2_with fail
  go_loopw [10] (fun vi wr => ∃ i : Nat, vi = .int .i64 i ∧ i ≤ N ∧ Hid (Below w.heap.size w wr) ∧ Hid ((ds.take i).all (okDf ds.length) = true)) (fun vi _ => N - (intOf vi).toNat)
  case atStart => exact ⟨0, rfl, by omega, Lib.hid (Below.refl _ _), Lib.hid (by simp)⟩
  case round =>
    obtain ⟨i, rfl, hi, HB, HA⟩ := hrel
    by_cases hp : i < N
    · have hp' : i < ds.length := by rw [HN.out]; exact hp
      obtain ⟨a, B, m, bc, rfl, la, p0, p1, r0, em⟩ := (HR.out wr HB.out).item hp'
      have HNO2 := Lib.hid (HNO.out i hp')
      have HST2 := Lib.hid (HST.out i hp' HA.out)
      have hsm := HSM.out _ (List.getElem_mem hp')
      rw [HN.out] at HNO2 HST2
      obtain ⟨x, hx⟩ : ∃ x, ds[i] = x := ⟨_, rfl⟩
      rw [hx] at p0 r0 em HNO2 HST2 hsm
      obtain ⟨nm, xs⟩ := x
      simp only at p0 r0 em hsm
      obtain ⟨hsz, hxl, hrg⟩ := hsm
      have LA : Hid ((a.add (i * 2)).block < wr.heap.size) := Lib.hid (by rw [addr_addb]; exact la)
      have HNM := Lib.hid (fun W => impl_nameok nm (by omega) W)
      have HSH := Lib.hid (fun W (h : Below wr.heap.size wr W) => impl_shape xs hrg (.slice B m bc) W (r0.below h))
      have HRX := Lib.hid (fun W (h : Below wr.heap.size wr W) => r0.below h)
      have HRG := Lib.hid (show RngO xs from hrg)
      have hm : m ≤ 1048576 := by omega
      have HXM := Lib.hid em
      have i1 : (0 : Int) ≤ (i : Int) := by omega
      have i2 : (i : Int) < (N : Int) := by omega
      clear hx la hp' hsz hxl hrg r0 em HA
      have BX : Hid (Below wr.heap.size wr (wr.alloc (.cells #[.string nm, .slice B m bc] 52))) := Lib.hid (below_alloc1 wr _)
      have KX := Lib.hid (fun W (h : Below (wr.alloc (.cells #[.string nm, .slice B m bc] 52)).heap.size (wr.alloc (.cells #[.string nm, .slice B m bc] 52)) W) => ((Blk.new wr 52 #[.string nm, .slice B m bc]).below h (Blk.new wr 52 #[.string nm, .slice B m bc]).lt))
      cases hn : nameOk nm with
      | false =>
        rw [hn] at HNM
        have HE : Hid (R = false) := Lib.hid (HNO2.out (by simp [okDf, hn]))
        have HB2 := Lib.hid (HB.out.trans (BX.out.mono HB.out.size))
        clear hn HNO2 HST2 HSH HRX KX BX HB
        go_wp2_with fail
        refine (HNM.out _).mono ?_
        rintro e w2 ⟨rfl, rfl⟩
        go_wp2_with fail
        go_ret
        exact ⟨by rw [HE.out]; rfl, HB2.out⟩
      | true =>
        rw [hn] at HNM
        cases hsh : shapeB xs with
        | false =>
          rw [hsh] at HSH
          have HE : Hid (R = false) := Lib.hid (HNO2.out (by simp [okDf, hsh]))
          clear hn hsh HNO2 HST2 HRX KX
          go_wp2_with fail
          refine (HNM.out _).mono ?_
          rintro e w2 ⟨rfl, rfl⟩
          go_wp2_with fail
          refine (HSH.out _ BX.out).mono ?_
          rintro e w3 ⟨rfl, hb3⟩
          have HB2 := Lib.hid (HB.out.trans ((BX.out.trans (hb3.mono BX.out.size)).mono HB.out.size))
          clear hb3 BX HB
          go_wp2_with fail
          go_ret
          exact ⟨by rw [HE.out]; rfl, HB2.out⟩
        | true =>
          rw [hsh] at HSH
          have HCA := Lib.hid (fun W h => impl_calls xs HRG.out (.slice B m bc) N W (HRX.out W h))
          have HOK : Hid (okDf N (nm, xs) = xs.all (okC N)) := Lib.hid (by simp [okDf, hn, hsh])
          clear hn hsh HRX
          go_wp2_with fail
          refine (HNM.out _).mono ?_
          rintro e w2 ⟨rfl, rfl⟩
          go_wp2_with fail
          refine (HSH.out _ BX.out).mono ?_
          rintro e w3 ⟨rfl, hb3⟩
          have e1 : w3.cell? ⟨wr.heap.size, 1, none⟩ = some (.slice B m bc) := (KX.out _ hb3).cell 1
          have B3 := Lib.hid (BX.out.trans (hb3.mono BX.out.size))
          clear hb3 BX HSH KX
          go_wp2_with fail
          refine (HCA.out _ B3.out).mono ?_
          rintro e w4 ⟨rfl, hb4⟩
          have HB2 := Lib.hid (HB.out.trans ((B3.out.trans (hb4.mono B3.out.size)).mono HB.out.size))
          clear hb4 B3 HB e1
          cases hc : xs.all (okC N) with
          | false =>
            have HE : Hid (R = false) := Lib.hid (HNO2.out (by rw [HOK.out, hc]))
            clear hc HNO2 HST2 HOK
            go_wp2_with fail
            go_ret
            exact ⟨by rw [HE.out]; rfl, HB2.out⟩
          | true =>
            have HA2 : Hid ((ds.take (i + 1)).all (okDf ds.length) = true) := Lib.hid (by have := HST2.out (by rw [HOK.out, hc]); rw [HN.out]; exact this)
            clear hc HNO2 HST2 HOK
            go_wp2_with fail
            go_roundw
            case rel => exact ⟨i + 1, by go_num, by omega, HB2, HA2⟩
            case measure => simp [intOf]; omega
    · obtain rfl : i = N := by omega
      have HE : Hid (R = true) := Lib.hid (by have := HEND.out (by rw [← HN.out]; have := HA.out; rw [← HN.out] at this; exact this); exact this.symm)
      clear HA HR HEND HNO HST
      go_wp2_with fail
      go_ret
      exact ⟨by rw [HE.out]; rfl, HB.out⟩
theorem impl_defs (ds : List Df) (hs : SmD ds) (v : Value) (w : World) (hr : RdD w v ds) : Calls Try.prog 27 #[v] w fun e w' => e = .returned (.bool (okDefs ds)) ∧ Below w.heap.size w w' := by
  by_cases hl : ds.length ≤ 24
  · exact impl_defs_short ds hl hs v w hr
  · exact impl_defs_long ds hl hs v w hr
end Go.Proofs.Ytofikgjoiidhmaa
