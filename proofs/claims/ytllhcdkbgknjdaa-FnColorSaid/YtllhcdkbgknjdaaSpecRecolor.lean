/-
  Recolor of the model.
-/
import Derived.Test.YtllhcdkbgknjdaaRecolor
import Derived.Test.YtllhcdkbgknjdaaSpecCells
namespace Go.Proofs.Ytllhcdkbgknjdaa
open Go.RowKit Go

abbrev InC (a lo hi : Int) (b : Bool) : Prop := Hid (∀ W : World, Calls Try.prog 19 #[.int .i64 a, .int .i64 lo, .int .i64 hi] W fun e w' => e = .returned (.bool b) ∧ W = w')
abbrev OkC (it : It) (w : World) (b : Bool) : Prop := Hid (∀ W, Below w.heap.size w W → Calls Try.prog 20 #[itVal it] W fun e w' => e = .returned (.bool b) ∧ Below W.heap.size W w')

set_option maxHeartbeats 4000000 in
theorem sr_1FV (k0 : Int) (nm : ByteArray) (n : Int) (x : Bool) (r : Nat) (k : Int) (w : World) (HE : Hid (recolOk ⟨k0, nm, n, x, r⟩ k = false)) (HO : OkC ⟨k0, nm, n, x, r⟩ w false) (P1 : InC k0 1 6 true) (Q1 : InC k 1 6 true) (P2 : InC k0 7 8 false) : Calls Try.prog 8 #[itA k0 nm n x (r : Int), .int .i64 k] w (RecEnd ⟨k0, nm, n, x, r⟩ k w) := by
  go_enter Try.func8, Try.ntmps8
  go_wp2_with fail
  refine (P1.out _).mono ?_
  rintro e w' ⟨rfl, rfl⟩
  go_wp2_with fail
  refine (Q1.out _).mono ?_
  rintro e w' ⟨rfl, rfl⟩
  go_wp2_with fail
  refine (P2.out _).mono ?_
  rintro e w' ⟨rfl, rfl⟩
  go_wp2_with fail
  refine (HO.out _ (by go_grown)).mono ?_
  rintro e w1 ⟨rfl, hb⟩
  obtain ⟨k1, k2, hB, hz⟩ := two_boxes hb
  have k1 : Blk w1 w.heap.size 26 (itC k0 nm n x (r : Int)) := k1
  obtain ⟨c0, c1, c2, c3, c4, g0, g1, g2, g3, g4⟩ := itC_cells k1
  obtain ⟨d0, d1, d2, d3, d4, f0, f1, f2, f3, f4⟩ := itC_cells (k := 0) (nm := ⟨#[]⟩) (n := 0) (hx := false) (r := 0) k2
  have HB := Lib.hid hB
  have K2 := Lib.hid (show Blk w1 (w.heap.size + 1) 26 (itC 0 ⟨#[]⟩ 0 false 0) from k2)
  have HNE : Hid (w.heap.size + 1 ≠ w.heap.size) := Lib.hid (by omega)
  clear hb hB k1 k2 hz HO P1 P2
  go_wp2_with fail
  have hk := putAll_blk K2.out 0 ⟨#[]⟩ 0 false 0
  have hbl := putAll_below (g := w.heap.size + 1) HB.out (by omega) 0 ⟨#[]⟩ 0 false 0
  show bodyPost _ _ _ _ _ (putAll w1 (w.heap.size + 1) 0 ⟨#[]⟩ 0 false 0)
  generalize putAll w1 (w.heap.size + 1) 0 ⟨#[]⟩ 0 false 0 = W5 at hk hbl ⊢
  obtain ⟨e0, e1, e2, e3, e4, -⟩ := itC_cells hk
  clear hk
  exact bodyPost_ret (v := .tuple #[itA 0 ⟨#[]⟩ 0 false 0, .bool false]) (by simp [results, Try.results8, e0, e1, e2, e3, e4, go_sem]) rfl (rec_no HE.out hbl)

set_option maxHeartbeats 4000000 in
theorem sr_1TV (k0 : Int) (nm : ByteArray) (n : Int) (x : Bool) (r : Nat) (k : Int) (w : World) (HE : Hid (recolOk ⟨k0, nm, n, x, r⟩ k = true)) (HO : OkC ⟨k0, nm, n, x, r⟩ w true) (P1 : InC k0 1 6 true) (Q1 : InC k 1 6 true) (P2 : InC k0 7 8 false) : Calls Try.prog 8 #[itA k0 nm n x (r : Int), .int .i64 k] w (RecEnd ⟨k0, nm, n, x, r⟩ k w) := by
  go_enter Try.func8, Try.ntmps8
  go_wp2_with fail
  refine (P1.out _).mono ?_
  rintro e w' ⟨rfl, rfl⟩
  go_wp2_with fail
  refine (Q1.out _).mono ?_
  rintro e w' ⟨rfl, rfl⟩
  go_wp2_with fail
  refine (P2.out _).mono ?_
  rintro e w' ⟨rfl, rfl⟩
  go_wp2_with fail
  refine (HO.out _ (by go_grown)).mono ?_
  rintro e w1 ⟨rfl, hb⟩
  obtain ⟨k1, k2, hB, hz⟩ := two_boxes hb
  have k1 : Blk w1 w.heap.size 26 (itC k0 nm n x (r : Int)) := k1
  obtain ⟨c0, c1, c2, c3, c4, g0, g1, g2, g3, g4⟩ := itC_cells k1
  obtain ⟨d0, d1, d2, d3, d4, f0, f1, f2, f3, f4⟩ := itC_cells (k := 0) (nm := ⟨#[]⟩) (n := 0) (hx := false) (r := 0) k2
  have HB := Lib.hid hB
  have K2 := Lib.hid (show Blk w1 (w.heap.size + 1) 26 (itC 0 ⟨#[]⟩ 0 false 0) from k2)
  have HNE : Hid (w.heap.size + 1 ≠ w.heap.size) := Lib.hid (by omega)
  clear hb hB k1 k2 hz HO P1 P2
  go_wp2_with fail
  have hk := putAll_blk (K2.out.far (p := ⟨w.heap.size, 0, none⟩) HNE.out (.int .i64 k)) k nm n x (r : Int)
  have hbl := putAll_below (g := w.heap.size + 1) (HB.out.setCell (p := ⟨w.heap.size, 0, none⟩) (Nat.le_refl _) (.int .i64 k)) (by omega) k nm n x (r : Int)
  show bodyPost _ _ _ _ _ (putAll (w1.setCell ⟨w.heap.size, 0, none⟩ (.int .i64 k)) (w.heap.size + 1) k nm n x (r : Int))
  generalize putAll (w1.setCell ⟨w.heap.size, 0, none⟩ (.int .i64 k)) (w.heap.size + 1) k nm n x (r : Int) = W5 at hk hbl ⊢
  obtain ⟨e0, e1, e2, e3, e4, -⟩ := itC_cells hk
  clear hk
  exact bodyPost_ret (v := .tuple #[itA k nm n x (r : Int), .bool true]) (by simp [results, Try.results8, e0, e1, e2, e3, e4, go_sem]) rfl (rec_yes HE.out hbl)

set_option maxHeartbeats 4000000 in
theorem sr_2FV (k0 : Int) (nm : ByteArray) (n : Int) (x : Bool) (r : Nat) (k : Int) (w : World) (HE : Hid (recolOk ⟨k0, nm, n, x, r⟩ k = false)) (HO : OkC ⟨k0, nm, n, x, r⟩ w false) (P1 : InC k0 1 6 true) (Q1 : InC k 1 6 false) (P2 : InC k0 7 8 false) : Calls Try.prog 8 #[itA k0 nm n x (r : Int), .int .i64 k] w (RecEnd ⟨k0, nm, n, x, r⟩ k w) := by
  go_enter Try.func8, Try.ntmps8
  go_wp2_with fail
  refine (P1.out _).mono ?_
  rintro e w' ⟨rfl, rfl⟩
  go_wp2_with fail
  refine (Q1.out _).mono ?_
  rintro e w' ⟨rfl, rfl⟩
  go_wp2_with fail
  refine (P2.out _).mono ?_
  rintro e w' ⟨rfl, rfl⟩
  go_wp2_with fail
  refine (HO.out _ (by go_grown)).mono ?_
  rintro e w1 ⟨rfl, hb⟩
  obtain ⟨k1, k2, hB, hz⟩ := two_boxes hb
  have k1 : Blk w1 w.heap.size 26 (itC k0 nm n x (r : Int)) := k1
  obtain ⟨c0, c1, c2, c3, c4, g0, g1, g2, g3, g4⟩ := itC_cells k1
  obtain ⟨d0, d1, d2, d3, d4, f0, f1, f2, f3, f4⟩ := itC_cells (k := 0) (nm := ⟨#[]⟩) (n := 0) (hx := false) (r := 0) k2
  have HB := Lib.hid hB
  have K2 := Lib.hid (show Blk w1 (w.heap.size + 1) 26 (itC 0 ⟨#[]⟩ 0 false 0) from k2)
  have HNE : Hid (w.heap.size + 1 ≠ w.heap.size) := Lib.hid (by omega)
  clear hb hB k1 k2 hz HO P1 P2
  go_wp2_with fail
  have hk := putAll_blk K2.out 0 ⟨#[]⟩ 0 false 0
  have hbl := putAll_below (g := w.heap.size + 1) HB.out (by omega) 0 ⟨#[]⟩ 0 false 0
  show bodyPost _ _ _ _ _ (putAll w1 (w.heap.size + 1) 0 ⟨#[]⟩ 0 false 0)
  generalize putAll w1 (w.heap.size + 1) 0 ⟨#[]⟩ 0 false 0 = W5 at hk hbl ⊢
  obtain ⟨e0, e1, e2, e3, e4, -⟩ := itC_cells hk
  clear hk
  exact bodyPost_ret (v := .tuple #[itA 0 ⟨#[]⟩ 0 false 0, .bool false]) (by simp [results, Try.results8, e0, e1, e2, e3, e4, go_sem]) rfl (rec_no HE.out hbl)

set_option maxHeartbeats 4000000 in
theorem sr_2TN (k0 : Int) (nm : ByteArray) (n : Int) (x : Bool) (r : Nat) (k : Int) (w : World) (HE : Hid (recolOk ⟨k0, nm, n, x, r⟩ k = false)) (HO : OkC ⟨k0, nm, n, x, r⟩ w true) (P1 : InC k0 1 6 true) (Q1 : InC k 1 6 false) (P2 : InC k0 7 8 false) (hne : (k0 != k) = true) : Calls Try.prog 8 #[itA k0 nm n x (r : Int), .int .i64 k] w (RecEnd ⟨k0, nm, n, x, r⟩ k w) := by
  go_enter Try.func8, Try.ntmps8
  go_wp2_with fail
  refine (P1.out _).mono ?_
  rintro e w' ⟨rfl, rfl⟩
  go_wp2_with fail
  refine (Q1.out _).mono ?_
  rintro e w' ⟨rfl, rfl⟩
  go_wp2_with fail
  refine (P2.out _).mono ?_
  rintro e w' ⟨rfl, rfl⟩
  go_wp2_with fail
  refine (HO.out _ (by go_grown)).mono ?_
  rintro e w1 ⟨rfl, hb⟩
  obtain ⟨k1, k2, hB, hz⟩ := two_boxes hb
  have k1 : Blk w1 w.heap.size 26 (itC k0 nm n x (r : Int)) := k1
  obtain ⟨c0, c1, c2, c3, c4, g0, g1, g2, g3, g4⟩ := itC_cells k1
  obtain ⟨d0, d1, d2, d3, d4, f0, f1, f2, f3, f4⟩ := itC_cells (k := 0) (nm := ⟨#[]⟩) (n := 0) (hx := false) (r := 0) k2
  have HB := Lib.hid hB
  have K2 := Lib.hid (show Blk w1 (w.heap.size + 1) 26 (itC 0 ⟨#[]⟩ 0 false 0) from k2)
  have HNE : Hid (w.heap.size + 1 ≠ w.heap.size) := Lib.hid (by omega)
  clear hb hB k1 k2 hz HO P1 P2
  go_wp2_with fail
  have hk := putAll_blk K2.out 0 ⟨#[]⟩ 0 false 0
  have hbl := putAll_below (g := w.heap.size + 1) HB.out (by omega) 0 ⟨#[]⟩ 0 false 0
  show bodyPost _ _ _ _ _ (putAll w1 (w.heap.size + 1) 0 ⟨#[]⟩ 0 false 0)
  generalize putAll w1 (w.heap.size + 1) 0 ⟨#[]⟩ 0 false 0 = W5 at hk hbl ⊢
  obtain ⟨e0, e1, e2, e3, e4, -⟩ := itC_cells hk
  clear hk
  exact bodyPost_ret (v := .tuple #[itA 0 ⟨#[]⟩ 0 false 0, .bool false]) (by simp [results, Try.results8, e0, e1, e2, e3, e4, go_sem]) rfl (rec_no HE.out hbl)

set_option maxHeartbeats 4000000 in
theorem sr_3FV (k0 : Int) (nm : ByteArray) (n : Int) (x : Bool) (r : Nat) (k : Int) (w : World) (HE : Hid (recolOk ⟨k0, nm, n, x, r⟩ k = false)) (HO : OkC ⟨k0, nm, n, x, r⟩ w false) (P1 : InC k0 1 6 false) (P2 : InC k0 7 8 true) (Q2 : InC k 7 8 true) : Calls Try.prog 8 #[itA k0 nm n x (r : Int), .int .i64 k] w (RecEnd ⟨k0, nm, n, x, r⟩ k w) := by
  go_enter Try.func8, Try.ntmps8
  go_wp2_with fail
  refine (P1.out _).mono ?_
  rintro e w' ⟨rfl, rfl⟩
  go_wp2_with fail
  refine (P2.out _).mono ?_
  rintro e w' ⟨rfl, rfl⟩
  go_wp2_with fail
  refine (Q2.out _).mono ?_
  rintro e w' ⟨rfl, rfl⟩
  go_wp2_with fail
  refine (HO.out _ (by go_grown)).mono ?_
  rintro e w1 ⟨rfl, hb⟩
  obtain ⟨k1, k2, hB, hz⟩ := two_boxes hb
  have k1 : Blk w1 w.heap.size 26 (itC k0 nm n x (r : Int)) := k1
  obtain ⟨c0, c1, c2, c3, c4, g0, g1, g2, g3, g4⟩ := itC_cells k1
  obtain ⟨d0, d1, d2, d3, d4, f0, f1, f2, f3, f4⟩ := itC_cells (k := 0) (nm := ⟨#[]⟩) (n := 0) (hx := false) (r := 0) k2
  have HB := Lib.hid hB
  have K2 := Lib.hid (show Blk w1 (w.heap.size + 1) 26 (itC 0 ⟨#[]⟩ 0 false 0) from k2)
  have HNE : Hid (w.heap.size + 1 ≠ w.heap.size) := Lib.hid (by omega)
  clear hb hB k1 k2 hz HO P1 P2
  go_wp2_with fail
  have hk := putAll_blk K2.out 0 ⟨#[]⟩ 0 false 0
  have hbl := putAll_below (g := w.heap.size + 1) HB.out (by omega) 0 ⟨#[]⟩ 0 false 0
  show bodyPost _ _ _ _ _ (putAll w1 (w.heap.size + 1) 0 ⟨#[]⟩ 0 false 0)
  generalize putAll w1 (w.heap.size + 1) 0 ⟨#[]⟩ 0 false 0 = W5 at hk hbl ⊢
  obtain ⟨e0, e1, e2, e3, e4, -⟩ := itC_cells hk
  clear hk
  exact bodyPost_ret (v := .tuple #[itA 0 ⟨#[]⟩ 0 false 0, .bool false]) (by simp [results, Try.results8, e0, e1, e2, e3, e4, go_sem]) rfl (rec_no HE.out hbl)

set_option maxHeartbeats 4000000 in
theorem sr_3TV (k0 : Int) (nm : ByteArray) (n : Int) (x : Bool) (r : Nat) (k : Int) (w : World) (HE : Hid (recolOk ⟨k0, nm, n, x, r⟩ k = true)) (HO : OkC ⟨k0, nm, n, x, r⟩ w true) (P1 : InC k0 1 6 false) (P2 : InC k0 7 8 true) (Q2 : InC k 7 8 true) : Calls Try.prog 8 #[itA k0 nm n x (r : Int), .int .i64 k] w (RecEnd ⟨k0, nm, n, x, r⟩ k w) := by
  go_enter Try.func8, Try.ntmps8
  go_wp2_with fail
  refine (P1.out _).mono ?_
  rintro e w' ⟨rfl, rfl⟩
  go_wp2_with fail
  refine (P2.out _).mono ?_
  rintro e w' ⟨rfl, rfl⟩
  go_wp2_with fail
  refine (Q2.out _).mono ?_
  rintro e w' ⟨rfl, rfl⟩
  go_wp2_with fail
  refine (HO.out _ (by go_grown)).mono ?_
  rintro e w1 ⟨rfl, hb⟩
  obtain ⟨k1, k2, hB, hz⟩ := two_boxes hb
  have k1 : Blk w1 w.heap.size 26 (itC k0 nm n x (r : Int)) := k1
  obtain ⟨c0, c1, c2, c3, c4, g0, g1, g2, g3, g4⟩ := itC_cells k1
  obtain ⟨d0, d1, d2, d3, d4, f0, f1, f2, f3, f4⟩ := itC_cells (k := 0) (nm := ⟨#[]⟩) (n := 0) (hx := false) (r := 0) k2
  have HB := Lib.hid hB
  have K2 := Lib.hid (show Blk w1 (w.heap.size + 1) 26 (itC 0 ⟨#[]⟩ 0 false 0) from k2)
  have HNE : Hid (w.heap.size + 1 ≠ w.heap.size) := Lib.hid (by omega)
  clear hb hB k1 k2 hz HO P1 P2
  go_wp2_with fail
  have hk := putAll_blk (K2.out.far (p := ⟨w.heap.size, 0, none⟩) HNE.out (.int .i64 k)) k nm n x (r : Int)
  have hbl := putAll_below (g := w.heap.size + 1) (HB.out.setCell (p := ⟨w.heap.size, 0, none⟩) (Nat.le_refl _) (.int .i64 k)) (by omega) k nm n x (r : Int)
  show bodyPost _ _ _ _ _ (putAll (w1.setCell ⟨w.heap.size, 0, none⟩ (.int .i64 k)) (w.heap.size + 1) k nm n x (r : Int))
  generalize putAll (w1.setCell ⟨w.heap.size, 0, none⟩ (.int .i64 k)) (w.heap.size + 1) k nm n x (r : Int) = W5 at hk hbl ⊢
  obtain ⟨e0, e1, e2, e3, e4, -⟩ := itC_cells hk
  clear hk
  exact bodyPost_ret (v := .tuple #[itA k nm n x (r : Int), .bool true]) (by simp [results, Try.results8, e0, e1, e2, e3, e4, go_sem]) rfl (rec_yes HE.out hbl)

set_option maxHeartbeats 4000000 in
theorem sr_4FV (k0 : Int) (nm : ByteArray) (n : Int) (x : Bool) (r : Nat) (k : Int) (w : World) (HE : Hid (recolOk ⟨k0, nm, n, x, r⟩ k = false)) (HO : OkC ⟨k0, nm, n, x, r⟩ w false) (P1 : InC k0 1 6 false) (P2 : InC k0 7 8 true) (Q2 : InC k 7 8 false) : Calls Try.prog 8 #[itA k0 nm n x (r : Int), .int .i64 k] w (RecEnd ⟨k0, nm, n, x, r⟩ k w) := by
  go_enter Try.func8, Try.ntmps8
  go_wp2_with fail
  refine (P1.out _).mono ?_
  rintro e w' ⟨rfl, rfl⟩
  go_wp2_with fail
  refine (P2.out _).mono ?_
  rintro e w' ⟨rfl, rfl⟩
  go_wp2_with fail
  refine (Q2.out _).mono ?_
  rintro e w' ⟨rfl, rfl⟩
  go_wp2_with fail
  refine (HO.out _ (by go_grown)).mono ?_
  rintro e w1 ⟨rfl, hb⟩
  obtain ⟨k1, k2, hB, hz⟩ := two_boxes hb
  have k1 : Blk w1 w.heap.size 26 (itC k0 nm n x (r : Int)) := k1
  obtain ⟨c0, c1, c2, c3, c4, g0, g1, g2, g3, g4⟩ := itC_cells k1
  obtain ⟨d0, d1, d2, d3, d4, f0, f1, f2, f3, f4⟩ := itC_cells (k := 0) (nm := ⟨#[]⟩) (n := 0) (hx := false) (r := 0) k2
  have HB := Lib.hid hB
  have K2 := Lib.hid (show Blk w1 (w.heap.size + 1) 26 (itC 0 ⟨#[]⟩ 0 false 0) from k2)
  have HNE : Hid (w.heap.size + 1 ≠ w.heap.size) := Lib.hid (by omega)
  clear hb hB k1 k2 hz HO P1 P2
  go_wp2_with fail
  have hk := putAll_blk K2.out 0 ⟨#[]⟩ 0 false 0
  have hbl := putAll_below (g := w.heap.size + 1) HB.out (by omega) 0 ⟨#[]⟩ 0 false 0
  show bodyPost _ _ _ _ _ (putAll w1 (w.heap.size + 1) 0 ⟨#[]⟩ 0 false 0)
  generalize putAll w1 (w.heap.size + 1) 0 ⟨#[]⟩ 0 false 0 = W5 at hk hbl ⊢
  obtain ⟨e0, e1, e2, e3, e4, -⟩ := itC_cells hk
  clear hk
  exact bodyPost_ret (v := .tuple #[itA 0 ⟨#[]⟩ 0 false 0, .bool false]) (by simp [results, Try.results8, e0, e1, e2, e3, e4, go_sem]) rfl (rec_no HE.out hbl)

set_option maxHeartbeats 4000000 in
theorem sr_4TN (k0 : Int) (nm : ByteArray) (n : Int) (x : Bool) (r : Nat) (k : Int) (w : World) (HE : Hid (recolOk ⟨k0, nm, n, x, r⟩ k = false)) (HO : OkC ⟨k0, nm, n, x, r⟩ w true) (P1 : InC k0 1 6 false) (P2 : InC k0 7 8 true) (Q2 : InC k 7 8 false) (hne : (k0 != k) = true) : Calls Try.prog 8 #[itA k0 nm n x (r : Int), .int .i64 k] w (RecEnd ⟨k0, nm, n, x, r⟩ k w) := by
  go_enter Try.func8, Try.ntmps8
  go_wp2_with fail
  refine (P1.out _).mono ?_
  rintro e w' ⟨rfl, rfl⟩
  go_wp2_with fail
  refine (P2.out _).mono ?_
  rintro e w' ⟨rfl, rfl⟩
  go_wp2_with fail
  refine (Q2.out _).mono ?_
  rintro e w' ⟨rfl, rfl⟩
  go_wp2_with fail
  refine (HO.out _ (by go_grown)).mono ?_
  rintro e w1 ⟨rfl, hb⟩
  obtain ⟨k1, k2, hB, hz⟩ := two_boxes hb
  have k1 : Blk w1 w.heap.size 26 (itC k0 nm n x (r : Int)) := k1
  obtain ⟨c0, c1, c2, c3, c4, g0, g1, g2, g3, g4⟩ := itC_cells k1
  obtain ⟨d0, d1, d2, d3, d4, f0, f1, f2, f3, f4⟩ := itC_cells (k := 0) (nm := ⟨#[]⟩) (n := 0) (hx := false) (r := 0) k2
  have HB := Lib.hid hB
  have K2 := Lib.hid (show Blk w1 (w.heap.size + 1) 26 (itC 0 ⟨#[]⟩ 0 false 0) from k2)
  have HNE : Hid (w.heap.size + 1 ≠ w.heap.size) := Lib.hid (by omega)
  clear hb hB k1 k2 hz HO P1 P2
  go_wp2_with fail
  have hk := putAll_blk K2.out 0 ⟨#[]⟩ 0 false 0
  have hbl := putAll_below (g := w.heap.size + 1) HB.out (by omega) 0 ⟨#[]⟩ 0 false 0
  show bodyPost _ _ _ _ _ (putAll w1 (w.heap.size + 1) 0 ⟨#[]⟩ 0 false 0)
  generalize putAll w1 (w.heap.size + 1) 0 ⟨#[]⟩ 0 false 0 = W5 at hk hbl ⊢
  obtain ⟨e0, e1, e2, e3, e4, -⟩ := itC_cells hk
  clear hk
  exact bodyPost_ret (v := .tuple #[itA 0 ⟨#[]⟩ 0 false 0, .bool false]) (by simp [results, Try.results8, e0, e1, e2, e3, e4, go_sem]) rfl (rec_no HE.out hbl)

set_option maxHeartbeats 4000000 in
theorem sr_5FV (k0 : Int) (nm : ByteArray) (n : Int) (x : Bool) (r : Nat) (k : Int) (w : World) (HE : Hid (recolOk ⟨k0, nm, n, x, r⟩ k = false)) (HO : OkC ⟨k0, nm, n, x, r⟩ w false) (P1 : InC k0 1 6 false) (P2 : InC k0 7 8 false) : Calls Try.prog 8 #[itA k0 nm n x (r : Int), .int .i64 k] w (RecEnd ⟨k0, nm, n, x, r⟩ k w) := by
  go_enter Try.func8, Try.ntmps8
  go_wp2_with fail
  refine (P1.out _).mono ?_
  rintro e w' ⟨rfl, rfl⟩
  go_wp2_with fail
  refine (P2.out _).mono ?_
  rintro e w' ⟨rfl, rfl⟩
  go_wp2_with fail
  refine (HO.out _ (by go_grown)).mono ?_
  rintro e w1 ⟨rfl, hb⟩
  obtain ⟨k1, k2, hB, hz⟩ := two_boxes hb
  have k1 : Blk w1 w.heap.size 26 (itC k0 nm n x (r : Int)) := k1
  obtain ⟨c0, c1, c2, c3, c4, g0, g1, g2, g3, g4⟩ := itC_cells k1
  obtain ⟨d0, d1, d2, d3, d4, f0, f1, f2, f3, f4⟩ := itC_cells (k := 0) (nm := ⟨#[]⟩) (n := 0) (hx := false) (r := 0) k2
  have HB := Lib.hid hB
  have K2 := Lib.hid (show Blk w1 (w.heap.size + 1) 26 (itC 0 ⟨#[]⟩ 0 false 0) from k2)
  have HNE : Hid (w.heap.size + 1 ≠ w.heap.size) := Lib.hid (by omega)
  clear hb hB k1 k2 hz HO P1 P2
  go_wp2_with fail
  have hk := putAll_blk K2.out 0 ⟨#[]⟩ 0 false 0
  have hbl := putAll_below (g := w.heap.size + 1) HB.out (by omega) 0 ⟨#[]⟩ 0 false 0
  show bodyPost _ _ _ _ _ (putAll w1 (w.heap.size + 1) 0 ⟨#[]⟩ 0 false 0)
  generalize putAll w1 (w.heap.size + 1) 0 ⟨#[]⟩ 0 false 0 = W5 at hk hbl ⊢
  obtain ⟨e0, e1, e2, e3, e4, -⟩ := itC_cells hk
  clear hk
  exact bodyPost_ret (v := .tuple #[itA 0 ⟨#[]⟩ 0 false 0, .bool false]) (by simp [results, Try.results8, e0, e1, e2, e3, e4, go_sem]) rfl (rec_no HE.out hbl)

set_option maxHeartbeats 4000000 in
theorem sr_5TE (k0 : Int) (nm : ByteArray) (n : Int) (x : Bool) (r : Nat) (k : Int) (w : World) (HE : Hid (recolOk ⟨k0, nm, n, x, r⟩ k = true)) (HO : OkC ⟨k0, nm, n, x, r⟩ w true) (P1 : InC k0 1 6 false) (P2 : InC k0 7 8 false) (hne : (k0 != k) = false) : Calls Try.prog 8 #[itA k0 nm n x (r : Int), .int .i64 k] w (RecEnd ⟨k0, nm, n, x, r⟩ k w) := by
  go_enter Try.func8, Try.ntmps8
  go_wp2_with fail
  refine (P1.out _).mono ?_
  rintro e w' ⟨rfl, rfl⟩
  go_wp2_with fail
  refine (P2.out _).mono ?_
  rintro e w' ⟨rfl, rfl⟩
  go_wp2_with fail
  refine (HO.out _ (by go_grown)).mono ?_
  rintro e w1 ⟨rfl, hb⟩
  obtain ⟨k1, k2, hB, hz⟩ := two_boxes hb
  have k1 : Blk w1 w.heap.size 26 (itC k0 nm n x (r : Int)) := k1
  obtain ⟨c0, c1, c2, c3, c4, g0, g1, g2, g3, g4⟩ := itC_cells k1
  obtain ⟨d0, d1, d2, d3, d4, f0, f1, f2, f3, f4⟩ := itC_cells (k := 0) (nm := ⟨#[]⟩) (n := 0) (hx := false) (r := 0) k2
  have HB := Lib.hid hB
  have K2 := Lib.hid (show Blk w1 (w.heap.size + 1) 26 (itC 0 ⟨#[]⟩ 0 false 0) from k2)
  have HNE : Hid (w.heap.size + 1 ≠ w.heap.size) := Lib.hid (by omega)
  clear hb hB k1 k2 hz HO P1 P2
  go_wp2_with fail
  have hk := putAll_blk (K2.out.far (p := ⟨w.heap.size, 0, none⟩) HNE.out (.int .i64 k)) k nm n x (r : Int)
  have hbl := putAll_below (g := w.heap.size + 1) (HB.out.setCell (p := ⟨w.heap.size, 0, none⟩) (Nat.le_refl _) (.int .i64 k)) (by omega) k nm n x (r : Int)
  show bodyPost _ _ _ _ _ (putAll (w1.setCell ⟨w.heap.size, 0, none⟩ (.int .i64 k)) (w.heap.size + 1) k nm n x (r : Int))
  generalize putAll (w1.setCell ⟨w.heap.size, 0, none⟩ (.int .i64 k)) (w.heap.size + 1) k nm n x (r : Int) = W5 at hk hbl ⊢
  obtain ⟨e0, e1, e2, e3, e4, -⟩ := itC_cells hk
  clear hk
  exact bodyPost_ret (v := .tuple #[itA k nm n x (r : Int), .bool true]) (by simp [results, Try.results8, e0, e1, e2, e3, e4, go_sem]) rfl (rec_yes HE.out hbl)

set_option maxHeartbeats 4000000 in
theorem sr_5TN (k0 : Int) (nm : ByteArray) (n : Int) (x : Bool) (r : Nat) (k : Int) (w : World) (HE : Hid (recolOk ⟨k0, nm, n, x, r⟩ k = false)) (HO : OkC ⟨k0, nm, n, x, r⟩ w true) (P1 : InC k0 1 6 false) (P2 : InC k0 7 8 false) (hne : (k0 != k) = true) : Calls Try.prog 8 #[itA k0 nm n x (r : Int), .int .i64 k] w (RecEnd ⟨k0, nm, n, x, r⟩ k w) := by
  go_enter Try.func8, Try.ntmps8
  go_wp2_with fail
  refine (P1.out _).mono ?_
  rintro e w' ⟨rfl, rfl⟩
  go_wp2_with fail
  refine (P2.out _).mono ?_
  rintro e w' ⟨rfl, rfl⟩
  go_wp2_with fail
  refine (HO.out _ (by go_grown)).mono ?_
  rintro e w1 ⟨rfl, hb⟩
  obtain ⟨k1, k2, hB, hz⟩ := two_boxes hb
  have k1 : Blk w1 w.heap.size 26 (itC k0 nm n x (r : Int)) := k1
  obtain ⟨c0, c1, c2, c3, c4, g0, g1, g2, g3, g4⟩ := itC_cells k1
  obtain ⟨d0, d1, d2, d3, d4, f0, f1, f2, f3, f4⟩ := itC_cells (k := 0) (nm := ⟨#[]⟩) (n := 0) (hx := false) (r := 0) k2
  have HB := Lib.hid hB
  have K2 := Lib.hid (show Blk w1 (w.heap.size + 1) 26 (itC 0 ⟨#[]⟩ 0 false 0) from k2)
  have HNE : Hid (w.heap.size + 1 ≠ w.heap.size) := Lib.hid (by omega)
  clear hb hB k1 k2 hz HO P1 P2
  go_wp2_with fail
  have hk := putAll_blk K2.out 0 ⟨#[]⟩ 0 false 0
  have hbl := putAll_below (g := w.heap.size + 1) HB.out (by omega) 0 ⟨#[]⟩ 0 false 0
  show bodyPost _ _ _ _ _ (putAll w1 (w.heap.size + 1) 0 ⟨#[]⟩ 0 false 0)
  generalize putAll w1 (w.heap.size + 1) 0 ⟨#[]⟩ 0 false 0 = W5 at hk hbl ⊢
  obtain ⟨e0, e1, e2, e3, e4, -⟩ := itC_cells hk
  clear hk
  exact bodyPost_ret (v := .tuple #[itA 0 ⟨#[]⟩ 0 false 0, .bool false]) (by simp [results, Try.results8, e0, e1, e2, e3, e4, go_sem]) rfl (rec_no HE.out hbl)

theorem spec_recolor (it : It) (hin : ItIn it) (k : Int) (w : World) : Calls Try.prog 8 #[itVal it, .int .i64 k] w (RecEnd it k w) := by
  have HO : ∀ b, decide (cellsOf it ≠ []) = b → OkC it w b := fun b hb => Lib.hid fun W _ => by rw [← hb]; exact spec_itemok it hin W
  have HI : ∀ (a lo hi : Int) (b : Bool), inB a lo hi = b → InC a lo hi b := fun a lo hi b hb => Lib.hid fun W => by rw [← hb]; exact in_any a lo hi W
  obtain ⟨k0, nm, n, x, r⟩ := it
  have hne : ∀ h : ¬ k0 = k, (k0 != k) = true := fun h => by simpa using h
  have hdis : wordK k0 = true → numK k0 = false := fun h => by have := of_decide_eq_true h; exact decide_eq_false (by omega)
  have E0 : ∀ b, decide (cellsOf ⟨k0, nm, n, x, r⟩ ≠ []) = b → recolOk ⟨k0, nm, n, x, r⟩ k = (b && akin k0 k) := fun b hb => by unfold recolOk; rw [hb]
  have EA : akin k0 k = (decide (k0 = k) || (wordK k0 && wordK k) || (numK k0 && numK k)) := rfl
  cases ho : decide (cellsOf ⟨k0, nm, n, x, r⟩ ≠ []) with
  | false =>
    have HE : Hid (recolOk ⟨k0, nm, n, x, r⟩ k = false) := Lib.hid ((E0 _ ho).trans rfl)
    cases p1 : wordK k0 with
    | true =>
      cases q1 : wordK k with
      | true => exact sr_1FV k0 nm n x r k w HE (HO _ ho) (HI _ _ _ _ p1) (HI _ _ _ _ q1) (HI _ _ _ _ (hdis p1))
      | false => exact sr_2FV k0 nm n x r k w HE (HO _ ho) (HI _ _ _ _ p1) (HI _ _ _ _ q1) (HI _ _ _ _ (hdis p1))
    | false =>
      cases p2 : numK k0 with
      | true =>
        cases q2 : numK k with
        | true => exact sr_3FV k0 nm n x r k w HE (HO _ ho) (HI _ _ _ _ p1) (HI _ _ _ _ p2) (HI _ _ _ _ q2)
        | false => exact sr_4FV k0 nm n x r k w HE (HO _ ho) (HI _ _ _ _ p1) (HI _ _ _ _ p2) (HI _ _ _ _ q2)
      | false => exact sr_5FV k0 nm n x r k w HE (HO _ ho) (HI _ _ _ _ p1) (HI _ _ _ _ p2)
  | true =>
    have HE := (E0 _ ho).trans (Bool.true_and _)
    by_cases hk : k0 = k
    · have ha : recolOk ⟨k0, nm, n, x, r⟩ k = true := HE.trans (by rw [EA, decide_eq_true hk]; rfl)
      have hne : (k0 != k) = false := by simpa using hk
      cases p1 : wordK k0 with
      | true => exact sr_1TV k0 nm n x r k w (Lib.hid ha) (HO _ ho) (HI _ _ _ _ p1) (HI _ _ _ _ (hk ▸ p1)) (HI _ _ _ _ (hdis p1))
      | false =>
        cases p2 : numK k0 with
        | true => exact sr_3TV k0 nm n x r k w (Lib.hid ha) (HO _ ho) (HI _ _ _ _ p1) (HI _ _ _ _ p2) (HI _ _ _ _ (hk ▸ p2))
        | false => exact sr_5TE k0 nm n x r k w (Lib.hid ha) (HO _ ho) (HI _ _ _ _ p1) (HI _ _ _ _ p2) hne
    · rw [EA, decide_eq_false hk, Bool.false_or] at HE
      cases p1 : wordK k0 with
      | true =>
        rw [p1, hdis p1] at HE
        cases q1 : wordK k with
        | true => rw [q1] at HE; exact sr_1TV k0 nm n x r k w (Lib.hid HE) (HO _ ho) (HI _ _ _ _ p1) (HI _ _ _ _ q1) (HI _ _ _ _ (hdis p1))
        | false => rw [q1] at HE; exact sr_2TN k0 nm n x r k w (Lib.hid HE) (HO _ ho) (HI _ _ _ _ p1) (HI _ _ _ _ q1) (HI _ _ _ _ (hdis p1)) (hne hk)
      | false =>
        rw [p1] at HE
        cases p2 : numK k0 with
        | true =>
          rw [p2] at HE
          cases q2 : numK k with
          | true => rw [q2] at HE; exact sr_3TV k0 nm n x r k w (Lib.hid HE) (HO _ ho) (HI _ _ _ _ p1) (HI _ _ _ _ p2) (HI _ _ _ _ q2)
          | false => rw [q2] at HE; exact sr_4TN k0 nm n x r k w (Lib.hid HE) (HO _ ho) (HI _ _ _ _ p1) (HI _ _ _ _ p2) (HI _ _ _ _ q2) (hne hk)
        | false => rw [p2] at HE; exact sr_5TN k0 nm n x r k w (Lib.hid HE) (HO _ ho) (HI _ _ _ _ p1) (HI _ _ _ _ p2) (hne hk)
theorem impl_recolor (it : It) (hin : ItIn it) (k : Int) (w : World) (hcs : TabsAny w) (hs : it.name.size ≤ 281474976710656) : Calls Try.prog 7 #[itVal it, .int .i64 k] w (RecEnd it k w) := by
  cases ho : decide (cellsOf it ≠ []) with
  | false => exact impl_recolor_no1 it hin k w hcs ho
  | true =>
    cases ha : akin it.kind k with
    | false => exact impl_recolor_no2 it hin k w hcs ho ha
    | true => exact impl_recolor_yes it hin k w hcs hs ho ha
end Go.Proofs.Ytllhcdkbgknjdaa
