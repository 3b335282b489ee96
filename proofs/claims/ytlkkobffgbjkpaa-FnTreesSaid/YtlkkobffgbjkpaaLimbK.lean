/-
  The limb that a tree is, whatever its kids; its head; what is in it.
-/
import Derived.Test.YtlkkobffgbjkpaaOpOk
import Derived.Test.YtlkkobffgbjkpaaBlk
import Derived.Deep.RegionHeld3
import Derived.Handy
namespace Go.Proofs.Ytlkkobffgbjkpaa
open Go.RowKit Go

set_option maxHeartbeats 2000000 in
theorem limbk_if (n : Int) (B : Option Addr) (m bc : Nat) (q : Bool) (hq : okOp (3, n) = q) (hn0 : -2147483648 ≤ n) (hn1 : n ≤ 2147483647) (w : World) : Calls Try.prog 94 #[.agg #[.int .i64 3, .int .i32 n, .slice B m bc]] w fun e w' => e = .returned (.tuple #[.iface 149 (.agg #[.int .i64 3, .int .i32 n, .slice B m bc]), .bool q]) ∧ Below w.heap.size w w' := by
  have HO := Lib.hid (fun W => impl_opok 3 n hn0 hn1 W)
  rw [hq] at HO
  have hbx : Below w.heap.size w ((w.alloc (.cells #[.int .i64 3, .int .i32 n, .slice B m bc] 83)).alloc (.cells #[.int .i64 3, .int .i32 n] 75)) := (below_alloc1 w _).alloc (below_alloc1 w _).size _
  have k0 := ((Blk.new w 83 #[.int .i64 3, .int .i32 n, .slice B m bc]).alloc (.cells #[.int .i64 3, .int .i32 n] 75))
  have k1 := Blk.new (w.alloc (.cells #[.int .i64 3, .int .i32 n, .slice B m bc] 83)) 75 #[.int .i64 3, .int .i32 n]
  rw [World.size_alloc] at k1
  have HS : Hid (∀ W, Below ((w.alloc (.cells #[.int .i64 3, .int .i32 n, .slice B m bc] 83)).alloc (.cells #[.int .i64 3, .int .i32 n] 75)).heap.size ((w.alloc (.cells #[.int .i64 3, .int .i32 n, .slice B m bc] 83)).alloc (.cells #[.int .i64 3, .int .i32 n] 75)) W → W.cell? ⟨w.heap.size + 1, 0, none⟩ = some (.int .i64 3) ∧ W.cell? ⟨w.heap.size + 1, 1, none⟩ = some (.int .i32 n) ∧ W.cell? ⟨w.heap.size, 2, none⟩ = some (.slice B m bc)) := Lib.hid (fun W h => ⟨(k1.below h k1.lt).cell 0, (k1.below h k1.lt).cell 1, (k0.below h k0.lt).cell 2⟩)
  have HBX := Lib.hid hbx
  have HBD : Hid (Below ((w.alloc (.cells #[.int .i64 3, .int .i32 n, .slice B m bc] 83)).alloc (.cells #[.int .i64 3, .int .i32 n] 75)).heap.size ((w.alloc (.cells #[.int .i64 3, .int .i32 n, .slice B m bc] 83)).alloc (.cells #[.int .i64 3, .int .i32 n] 75)) ((w.alloc (.cells #[.int .i64 3, .int .i32 n, .slice B m bc] 83)).alloc (.cells #[.int .i64 3, .int .i32 n] 75)).drew) := Lib.hid (Below.refl _ _).drew
  clear hq hbx k0 k1 hn0 hn1
  go_enter Try.func94, Try.ntmps94
  go_wp2_with fail
  go_region_held3 (fun W => W.cell? ⟨w.heap.size + 1, 0, none⟩ = some (.int .i64 3) ∧ W.cell? ⟨w.heap.size + 1, 1, none⟩ = some (.int .i32 n) ∧ W.cell? ⟨w.heap.size, 2, none⟩ = some (.slice B m bc)) (first | exact HS.out _ (Below.refl _ _) | exact HS.out _ HBD.out | go_keep | exact HS.out _ (HBD.out.trans (hb2.mono HBD.out.size))) (first | (go_at_call 116; refine (HO.out _).mono ?_; rintro e w2 ⟨rfl, hb2⟩))
  go_wp2
  go_ret2
  exact ⟨rfl, HBX.out.trans ((HBD.out.trans (hb2.mono HBD.out.size)).mono HBX.out.size)⟩
set_option maxHeartbeats 2000000 in
theorem limbk_unless (n : Int) (B : Option Addr) (m bc : Nat) (q : Bool) (hq : okOp (4, n) = q) (hn0 : -2147483648 ≤ n) (hn1 : n ≤ 2147483647) (w : World) : Calls Try.prog 94 #[.agg #[.int .i64 4, .int .i32 n, .slice B m bc]] w fun e w' => e = .returned (.tuple #[.iface 149 (.agg #[.int .i64 4, .int .i32 n, .slice B m bc]), .bool q]) ∧ Below w.heap.size w w' := by
  have HO := Lib.hid (fun W => impl_opok 4 n hn0 hn1 W)
  rw [hq] at HO
  have hbx : Below w.heap.size w ((w.alloc (.cells #[.int .i64 4, .int .i32 n, .slice B m bc] 83)).alloc (.cells #[.int .i64 4, .int .i32 n] 75)) := (below_alloc1 w _).alloc (below_alloc1 w _).size _
  have k0 := ((Blk.new w 83 #[.int .i64 4, .int .i32 n, .slice B m bc]).alloc (.cells #[.int .i64 4, .int .i32 n] 75))
  have k1 := Blk.new (w.alloc (.cells #[.int .i64 4, .int .i32 n, .slice B m bc] 83)) 75 #[.int .i64 4, .int .i32 n]
  rw [World.size_alloc] at k1
  have HS : Hid (∀ W, Below ((w.alloc (.cells #[.int .i64 4, .int .i32 n, .slice B m bc] 83)).alloc (.cells #[.int .i64 4, .int .i32 n] 75)).heap.size ((w.alloc (.cells #[.int .i64 4, .int .i32 n, .slice B m bc] 83)).alloc (.cells #[.int .i64 4, .int .i32 n] 75)) W → W.cell? ⟨w.heap.size + 1, 0, none⟩ = some (.int .i64 4) ∧ W.cell? ⟨w.heap.size + 1, 1, none⟩ = some (.int .i32 n) ∧ W.cell? ⟨w.heap.size, 2, none⟩ = some (.slice B m bc)) := Lib.hid (fun W h => ⟨(k1.below h k1.lt).cell 0, (k1.below h k1.lt).cell 1, (k0.below h k0.lt).cell 2⟩)
  have HBX := Lib.hid hbx
  have HBD : Hid (Below ((w.alloc (.cells #[.int .i64 4, .int .i32 n, .slice B m bc] 83)).alloc (.cells #[.int .i64 4, .int .i32 n] 75)).heap.size ((w.alloc (.cells #[.int .i64 4, .int .i32 n, .slice B m bc] 83)).alloc (.cells #[.int .i64 4, .int .i32 n] 75)) ((w.alloc (.cells #[.int .i64 4, .int .i32 n, .slice B m bc] 83)).alloc (.cells #[.int .i64 4, .int .i32 n] 75)).drew) := Lib.hid (Below.refl _ _).drew
  clear hq hbx k0 k1 hn0 hn1
  go_enter Try.func94, Try.ntmps94
  go_wp2_with fail
  go_region_held3 (fun W => W.cell? ⟨w.heap.size + 1, 0, none⟩ = some (.int .i64 4) ∧ W.cell? ⟨w.heap.size + 1, 1, none⟩ = some (.int .i32 n) ∧ W.cell? ⟨w.heap.size, 2, none⟩ = some (.slice B m bc)) (first | exact HS.out _ (Below.refl _ _) | exact HS.out _ HBD.out | go_keep | exact HS.out _ (HBD.out.trans (hb2.mono HBD.out.size))) (first | (go_at_call 116; refine (HO.out _).mono ?_; rintro e w2 ⟨rfl, hb2⟩))
  go_wp2
  go_ret2
  exact ⟨rfl, HBX.out.trans ((HBD.out.trans (hb2.mono HBD.out.size)).mono HBX.out.size)⟩
set_option maxHeartbeats 2000000 in
theorem limbk_for (n : Int) (B : Option Addr) (m bc : Nat) (q : Bool) (hq : okOp (6, n) = q) (hn0 : -2147483648 ≤ n) (hn1 : n ≤ 2147483647) (w : World) : Calls Try.prog 94 #[.agg #[.int .i64 6, .int .i32 n, .slice B m bc]] w fun e w' => e = .returned (.tuple #[.iface 150 (.agg #[.int .i64 6, .int .i32 n, .slice B m bc]), .bool q]) ∧ Below w.heap.size w w' := by
  have HO := Lib.hid (fun W => impl_opok 6 n hn0 hn1 W)
  rw [hq] at HO
  have hbx : Below w.heap.size w ((w.alloc (.cells #[.int .i64 6, .int .i32 n, .slice B m bc] 83)).alloc (.cells #[.int .i64 6, .int .i32 n] 75)) := (below_alloc1 w _).alloc (below_alloc1 w _).size _
  have k0 := ((Blk.new w 83 #[.int .i64 6, .int .i32 n, .slice B m bc]).alloc (.cells #[.int .i64 6, .int .i32 n] 75))
  have k1 := Blk.new (w.alloc (.cells #[.int .i64 6, .int .i32 n, .slice B m bc] 83)) 75 #[.int .i64 6, .int .i32 n]
  rw [World.size_alloc] at k1
  have HS : Hid (∀ W, Below ((w.alloc (.cells #[.int .i64 6, .int .i32 n, .slice B m bc] 83)).alloc (.cells #[.int .i64 6, .int .i32 n] 75)).heap.size ((w.alloc (.cells #[.int .i64 6, .int .i32 n, .slice B m bc] 83)).alloc (.cells #[.int .i64 6, .int .i32 n] 75)) W → W.cell? ⟨w.heap.size + 1, 0, none⟩ = some (.int .i64 6) ∧ W.cell? ⟨w.heap.size + 1, 1, none⟩ = some (.int .i32 n) ∧ W.cell? ⟨w.heap.size, 2, none⟩ = some (.slice B m bc)) := Lib.hid (fun W h => ⟨(k1.below h k1.lt).cell 0, (k1.below h k1.lt).cell 1, (k0.below h k0.lt).cell 2⟩)
  have HBX := Lib.hid hbx
  have HBD : Hid (Below ((w.alloc (.cells #[.int .i64 6, .int .i32 n, .slice B m bc] 83)).alloc (.cells #[.int .i64 6, .int .i32 n] 75)).heap.size ((w.alloc (.cells #[.int .i64 6, .int .i32 n, .slice B m bc] 83)).alloc (.cells #[.int .i64 6, .int .i32 n] 75)) ((w.alloc (.cells #[.int .i64 6, .int .i32 n, .slice B m bc] 83)).alloc (.cells #[.int .i64 6, .int .i32 n] 75)).drew) := Lib.hid (Below.refl _ _).drew
  clear hq hbx k0 k1 hn0 hn1
  go_enter Try.func94, Try.ntmps94
  go_wp2_with fail
  go_region_held3 (fun W => W.cell? ⟨w.heap.size + 1, 0, none⟩ = some (.int .i64 6) ∧ W.cell? ⟨w.heap.size + 1, 1, none⟩ = some (.int .i32 n) ∧ W.cell? ⟨w.heap.size, 2, none⟩ = some (.slice B m bc)) (first | exact HS.out _ (Below.refl _ _) | exact HS.out _ HBD.out | go_keep | exact HS.out _ (HBD.out.trans (hb2.mono HBD.out.size))) (first | (go_at_call 116; refine (HO.out _).mono ?_; rintro e w2 ⟨rfl, hb2⟩))
  go_wp2
  go_ret2
  exact ⟨rfl, HBX.out.trans ((HBD.out.trans (hb2.mono HBD.out.size)).mono HBX.out.size)⟩
set_option maxHeartbeats 1000000 in
theorem limbk_end5 (n : Int) (B : Option Addr) (m bc : Nat) (w : World) : Calls Try.prog 94 #[.agg #[.int .i64 5, .int .i32 n, .slice B m bc]] w fun e w' => e = .returned (.tuple #[.nilIface, .bool false]) ∧ Below w.heap.size w w' := by
  go_enter Try.func94, Try.ntmps94
  go_wp2
  go_ret2
  exact ⟨rfl, by go_grown⟩
set_option maxHeartbeats 1000000 in
theorem limbk_end7 (n : Int) (B : Option Addr) (m bc : Nat) (w : World) : Calls Try.prog 94 #[.agg #[.int .i64 7, .int .i32 n, .slice B m bc]] w fun e w' => e = .returned (.tuple #[.nilIface, .bool false]) ∧ Below w.heap.size w w' := by
  go_enter Try.func94, Try.ntmps94
  go_wp2
  go_ret2
  exact ⟨rfl, by go_grown⟩
set_option maxHeartbeats 2000000 in
theorem limbk_leaf_false (k n : Int) (B : Option Addr) (m bc : Nat) (h3 : k ≠ 3 ∧ k ≠ 4 ∧ k ≠ 5 ∧ k ≠ 6 ∧ k ≠ 7) (hq : okOp (k, n) = false) (hn0 : -2147483648 ≤ n) (hn1 : n ≤ 2147483647) (w : World) : Calls Try.prog 94 #[.agg #[.int .i64 k, .int .i32 n, .slice B m bc]] w fun e w' => e = .returned (.tuple #[.iface 152 (.agg #[.int .i64 k, .int .i32 n]), .bool false]) ∧ Below w.heap.size w w' := by
  have HO := Lib.hid (fun W => impl_opok k n hn0 hn1 W)
  rw [hq] at HO
  have q5 : (k == 5) = false := by simp; omega
  have q7 : (k == 7) = false := by simp; omega
  have q3 : (k == 3) = false := by simp; omega
  have q4 : (k == 4) = false := by simp; omega
  have q6 : (k == 6) = false := by simp; omega
  clear h3
  have hbx : Below w.heap.size w ((w.alloc (.cells #[.int .i64 k, .int .i32 n, .slice B m bc] 83)).alloc (.cells #[.int .i64 k, .int .i32 n] 75)) := (below_alloc1 w _).alloc (below_alloc1 w _).size _
  have k0 := ((Blk.new w 83 #[.int .i64 k, .int .i32 n, .slice B m bc]).alloc (.cells #[.int .i64 k, .int .i32 n] 75))
  have k1 := Blk.new (w.alloc (.cells #[.int .i64 k, .int .i32 n, .slice B m bc] 83)) 75 #[.int .i64 k, .int .i32 n]
  rw [World.size_alloc] at k1
  have HS : Hid (∀ W, Below ((w.alloc (.cells #[.int .i64 k, .int .i32 n, .slice B m bc] 83)).alloc (.cells #[.int .i64 k, .int .i32 n] 75)).heap.size ((w.alloc (.cells #[.int .i64 k, .int .i32 n, .slice B m bc] 83)).alloc (.cells #[.int .i64 k, .int .i32 n] 75)) W → W.cell? ⟨w.heap.size + 1, 0, none⟩ = some (.int .i64 k) ∧ W.cell? ⟨w.heap.size + 1, 1, none⟩ = some (.int .i32 n) ∧ W.cell? ⟨w.heap.size, 2, none⟩ = some (.slice B m bc)) := Lib.hid (fun W h => ⟨(k1.below h k1.lt).cell 0, (k1.below h k1.lt).cell 1, (k0.below h k0.lt).cell 2⟩)
  have HBX := Lib.hid hbx
  have HBD : Hid (Below ((w.alloc (.cells #[.int .i64 k, .int .i32 n, .slice B m bc] 83)).alloc (.cells #[.int .i64 k, .int .i32 n] 75)).heap.size ((w.alloc (.cells #[.int .i64 k, .int .i32 n, .slice B m bc] 83)).alloc (.cells #[.int .i64 k, .int .i32 n] 75)) ((w.alloc (.cells #[.int .i64 k, .int .i32 n, .slice B m bc] 83)).alloc (.cells #[.int .i64 k, .int .i32 n] 75)).drew) := Lib.hid (Below.refl _ _).drew
  clear hq hbx k0 k1 hn0 hn1
  go_enter Try.func94, Try.ntmps94
  go_wp2_with fail
  obtain ⟨cc0, cc1, cc2⟩ := HS.out _ (Below.refl _ _)
  first | (go_region_with (go_at_call 116; refine (HO.out _).mono ?_; rintro e w2 ⟨rfl, hb2⟩; obtain ⟨d0, d1, d2⟩ := HS.out _ (HBD.out.trans (hb2.mono HBD.out.size)))) | fail
  all_goals go_wp2
  all_goals go_ret2
  all_goals exact ⟨rfl, HBX.out.trans ((HBD.out.trans (hb2.mono HBD.out.size)).mono HBX.out.size)⟩
set_option maxHeartbeats 2000000 in
theorem limbk_leaf_true (k n : Int) (B : Option Addr) (bc : Nat) (h3 : k ≠ 3 ∧ k ≠ 4 ∧ k ≠ 5 ∧ k ≠ 6 ∧ k ≠ 7) (hq : okOp (k, n) = true) (hn0 : -2147483648 ≤ n) (hn1 : n ≤ 2147483647) (w : World) : Calls Try.prog 94 #[.agg #[.int .i64 k, .int .i32 n, .slice B 0 bc]] w fun e w' => e = .returned (.tuple #[.iface 152 (.agg #[.int .i64 k, .int .i32 n]), .bool true]) ∧ Below w.heap.size w w' := by
  have HO := Lib.hid (fun W => impl_opok k n hn0 hn1 W)
  rw [hq] at HO
  have q5 : (k == 5) = false := by simp; omega
  have q7 : (k == 7) = false := by simp; omega
  have q3 : (k == 3) = false := by simp; omega
  have q4 : (k == 4) = false := by simp; omega
  have q6 : (k == 6) = false := by simp; omega
  clear h3
  have hbx : Below w.heap.size w ((w.alloc (.cells #[.int .i64 k, .int .i32 n, .slice B 0 bc] 83)).alloc (.cells #[.int .i64 k, .int .i32 n] 75)) := (below_alloc1 w _).alloc (below_alloc1 w _).size _
  have k0 := ((Blk.new w 83 #[.int .i64 k, .int .i32 n, .slice B 0 bc]).alloc (.cells #[.int .i64 k, .int .i32 n] 75))
  have k1 := Blk.new (w.alloc (.cells #[.int .i64 k, .int .i32 n, .slice B 0 bc] 83)) 75 #[.int .i64 k, .int .i32 n]
  rw [World.size_alloc] at k1
  have HS : Hid (∀ W, Below ((w.alloc (.cells #[.int .i64 k, .int .i32 n, .slice B 0 bc] 83)).alloc (.cells #[.int .i64 k, .int .i32 n] 75)).heap.size ((w.alloc (.cells #[.int .i64 k, .int .i32 n, .slice B 0 bc] 83)).alloc (.cells #[.int .i64 k, .int .i32 n] 75)) W → W.cell? ⟨w.heap.size + 1, 0, none⟩ = some (.int .i64 k) ∧ W.cell? ⟨w.heap.size + 1, 1, none⟩ = some (.int .i32 n) ∧ W.cell? ⟨w.heap.size, 2, none⟩ = some (.slice B 0 bc)) := Lib.hid (fun W h => ⟨(k1.below h k1.lt).cell 0, (k1.below h k1.lt).cell 1, (k0.below h k0.lt).cell 2⟩)
  have HBX := Lib.hid hbx
  have HBD : Hid (Below ((w.alloc (.cells #[.int .i64 k, .int .i32 n, .slice B 0 bc] 83)).alloc (.cells #[.int .i64 k, .int .i32 n] 75)).heap.size ((w.alloc (.cells #[.int .i64 k, .int .i32 n, .slice B 0 bc] 83)).alloc (.cells #[.int .i64 k, .int .i32 n] 75)) ((w.alloc (.cells #[.int .i64 k, .int .i32 n, .slice B 0 bc] 83)).alloc (.cells #[.int .i64 k, .int .i32 n] 75)).drew) := Lib.hid (Below.refl _ _).drew
  clear hq hbx k0 k1 hn0 hn1
  go_enter Try.func94, Try.ntmps94
  go_wp2_with fail
  go_region_held3 (fun W => W.cell? ⟨w.heap.size + 1, 0, none⟩ = some (.int .i64 k) ∧ W.cell? ⟨w.heap.size + 1, 1, none⟩ = some (.int .i32 n) ∧ W.cell? ⟨w.heap.size, 2, none⟩ = some (.slice B 0 bc)) (first | exact HS.out _ (Below.refl _ _) | exact HS.out _ HBD.out | go_keep | exact HS.out _ (HBD.out.trans (hb2.mono HBD.out.size))) (first | (go_at_call 116; refine (HO.out _).mono ?_; rintro e w2 ⟨rfl, hb2⟩))
  go_wp2
  go_ret2
  exact ⟨rfl, HBX.out.trans ((HBD.out.trans (hb2.mono HBD.out.size)).mono HBX.out.size)⟩
set_option maxHeartbeats 2000000 in
theorem limbk_leaf_kids (k n : Int) (B : Option Addr) (m bc : Nat) (h3 : k ≠ 3 ∧ k ≠ 4 ∧ k ≠ 5 ∧ k ≠ 6 ∧ k ≠ 7) (hq : okOp (k, n) = true) (hn0 : -2147483648 ≤ n) (hn1 : n ≤ 2147483647) (hm : m ≠ 0) (w : World) : Calls Try.prog 94 #[.agg #[.int .i64 k, .int .i32 n, .slice B m bc]] w fun e w' => e = .returned (.tuple #[.iface 152 (.agg #[.int .i64 k, .int .i32 n]), .bool false]) ∧ Below w.heap.size w w' := by
  have HO := Lib.hid (fun W => impl_opok k n hn0 hn1 W)
  rw [hq] at HO
  have q5 : (k == 5) = false := by simp; omega
  have q7 : (k == 7) = false := by simp; omega
  have q3 : (k == 3) = false := by simp; omega
  have q4 : (k == 4) = false := by simp; omega
  have q6 : (k == 6) = false := by simp; omega
  have qm : ((m : Int) == 0) = false := by simp; omega
  clear h3 hm
  have hbx : Below w.heap.size w ((w.alloc (.cells #[.int .i64 k, .int .i32 n, .slice B m bc] 83)).alloc (.cells #[.int .i64 k, .int .i32 n] 75)) := (below_alloc1 w _).alloc (below_alloc1 w _).size _
  have k0 := ((Blk.new w 83 #[.int .i64 k, .int .i32 n, .slice B m bc]).alloc (.cells #[.int .i64 k, .int .i32 n] 75))
  have k1 := Blk.new (w.alloc (.cells #[.int .i64 k, .int .i32 n, .slice B m bc] 83)) 75 #[.int .i64 k, .int .i32 n]
  rw [World.size_alloc] at k1
  have HS : Hid (∀ W, Below ((w.alloc (.cells #[.int .i64 k, .int .i32 n, .slice B m bc] 83)).alloc (.cells #[.int .i64 k, .int .i32 n] 75)).heap.size ((w.alloc (.cells #[.int .i64 k, .int .i32 n, .slice B m bc] 83)).alloc (.cells #[.int .i64 k, .int .i32 n] 75)) W → W.cell? ⟨w.heap.size + 1, 0, none⟩ = some (.int .i64 k) ∧ W.cell? ⟨w.heap.size + 1, 1, none⟩ = some (.int .i32 n) ∧ W.cell? ⟨w.heap.size, 2, none⟩ = some (.slice B m bc)) := Lib.hid (fun W h => ⟨(k1.below h k1.lt).cell 0, (k1.below h k1.lt).cell 1, (k0.below h k0.lt).cell 2⟩)
  have HBX := Lib.hid hbx
  have HBD : Hid (Below ((w.alloc (.cells #[.int .i64 k, .int .i32 n, .slice B m bc] 83)).alloc (.cells #[.int .i64 k, .int .i32 n] 75)).heap.size ((w.alloc (.cells #[.int .i64 k, .int .i32 n, .slice B m bc] 83)).alloc (.cells #[.int .i64 k, .int .i32 n] 75)) ((w.alloc (.cells #[.int .i64 k, .int .i32 n, .slice B m bc] 83)).alloc (.cells #[.int .i64 k, .int .i32 n] 75)).drew) := Lib.hid (Below.refl _ _).drew
  clear hq hbx k0 k1 hn0 hn1
  go_enter Try.func94, Try.ntmps94
  go_wp2_with fail
  go_region_held3 (fun W => W.cell? ⟨w.heap.size + 1, 0, none⟩ = some (.int .i64 k) ∧ W.cell? ⟨w.heap.size + 1, 1, none⟩ = some (.int .i32 n) ∧ W.cell? ⟨w.heap.size, 2, none⟩ = some (.slice B m bc)) (first | exact HS.out _ (Below.refl _ _) | exact HS.out _ HBD.out | go_keep | exact HS.out _ (HBD.out.trans (hb2.mono HBD.out.size))) (first | (go_at_call 116; refine (HO.out _).mono ?_; rintro e w2 ⟨rfl, hb2⟩))
  go_wp2
  go_ret2
  exact ⟨rfl, HBX.out.trans ((HBD.out.trans (hb2.mono HBD.out.size)).mono HBX.out.size)⟩
set_option maxRecDepth 100000 in
set_option maxHeartbeats 1000000 in
theorem insidek_fork (k n : Int) (B : Option Addr) (m bc : Nat) (w : World) : Calls Try.prog 95 #[.iface 149 (.agg #[.int .i64 k, .int .i32 n, .slice B m bc])] w fun e w' => e = .returned (.tuple #[.slice B m bc, .agg #[.int .i64 5, .int .i32 0], .bool true]) ∧ Below w.heap.size w w' := by
  have t_fork_fork : ∀ W, (Instr.typeAssert (.iface 149 (.agg #[.int .i64 k, .int .i32 n, .slice B m bc])) 126 149 true).run Try.prog W = .ok (.tuple #[.agg #[.int .i64 k, .int .i32 n, .slice B m bc], .bool true]) W := fun _ => by kernel_rfl
  go_enter Try.func95, Try.ntmps95
  go_wp2
  exact bodyPost_ret (v := .tuple #[.slice B m bc, .agg #[.int .i64 5, .int .i32 0], .bool true]) (by simp [results, Try.results95, go_sem]) rfl ⟨rfl, by go_grown⟩
set_option maxRecDepth 100000 in
set_option maxHeartbeats 1000000 in
theorem insidek_loop (k n : Int) (B : Option Addr) (m bc : Nat) (w : World) : Calls Try.prog 95 #[.iface 150 (.agg #[.int .i64 k, .int .i32 n, .slice B m bc])] w fun e w' => e = .returned (.tuple #[.slice B m bc, .agg #[.int .i64 7, .int .i32 0], .bool true]) ∧ Below w.heap.size w w' := by
  have t_loop_fork : ∀ W, (Instr.typeAssert (.iface 150 (.agg #[.int .i64 k, .int .i32 n, .slice B m bc])) 126 149 true).run Try.prog W = .ok (.tuple #[.agg #[.int .i64 0, .int .i32 0, .slice none 0 0], .bool false]) W := fun _ => by kernel_rfl
  have t_loop_loop : ∀ W, (Instr.typeAssert (.iface 150 (.agg #[.int .i64 k, .int .i32 n, .slice B m bc])) 126 150 true).run Try.prog W = .ok (.tuple #[.agg #[.int .i64 k, .int .i32 n, .slice B m bc], .bool true]) W := fun _ => by kernel_rfl
  go_enter Try.func95, Try.ntmps95
  go_wp2
  exact bodyPost_ret (v := .tuple #[.slice B m bc, .agg #[.int .i64 7, .int .i32 0], .bool true]) (by simp [results, Try.results95, go_sem]) rfl ⟨rfl, by go_grown⟩
set_option maxRecDepth 100000 in
set_option maxHeartbeats 1000000 in
theorem head_leaf (k n : Int) (w : World) : Calls Try.prog 145 #[.agg #[.int .i64 k, .int .i32 n]] w fun e w' => e = .returned (.agg #[.int .i64 k, .int .i32 n]) ∧ Below w.heap.size w w' := by
  go_enter Try.func145, Try.ntmps145
  go_wp2
  exact bodyPost_ret (v := .agg #[.int .i64 k, .int .i32 n]) (by simp [results, Try.results145, go_sem]) rfl ⟨rfl, by go_grown⟩
set_option maxRecDepth 100000 in
set_option maxHeartbeats 1000000 in
theorem head_fork (k n : Int) (B : Option Addr) (m bc : Nat) (w : World) : Calls Try.prog 141 #[.agg #[.int .i64 k, .int .i32 n, .slice B m bc]] w fun e w' => e = .returned (.agg #[.int .i64 k, .int .i32 n]) ∧ Below w.heap.size w w' := by
  go_enter Try.func141, Try.ntmps141
  go_wp2
  exact bodyPost_ret (v := .agg #[.int .i64 k, .int .i32 n]) (by simp [results, Try.results141, go_sem]) rfl ⟨rfl, by go_grown⟩
set_option maxRecDepth 100000 in
set_option maxHeartbeats 1000000 in
theorem head_loop (k n : Int) (B : Option Addr) (m bc : Nat) (w : World) : Calls Try.prog 143 #[.agg #[.int .i64 k, .int .i32 n, .slice B m bc]] w fun e w' => e = .returned (.agg #[.int .i64 k, .int .i32 n]) ∧ Below w.heap.size w w' := by
  go_enter Try.func143, Try.ntmps143
  go_wp2
  exact bodyPost_ret (v := .agg #[.int .i64 k, .int .i32 n]) (by simp [results, Try.results143, go_sem]) rfl ⟨rfl, by go_grown⟩
end Go.Proofs.Ytlkkobffgbjkpaa
