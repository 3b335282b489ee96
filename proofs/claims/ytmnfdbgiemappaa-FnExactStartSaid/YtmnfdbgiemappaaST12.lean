/-
  impl.ownSt: a copy of a state, all its lists new.
-/
import Derived.Test.YtmnfdbgiemappaaST7
namespace Go.Proofs.Ytmnfdbgiemappaa
open Go.RowKit Go

set_option maxRecDepth 100000 in
set_option maxHeartbeats 8000000 in
theorem ownst_any (d r m c v o i : Value) (S : S8) (hs : totSt S ≤ 4000000) (w : World) (hr : RdSt w d r m c v o i S) :
    Calls Try.prog 57 #[.agg #[d, r, .int .i32 S.a, m, c, v, o, i, .int .i64 S.fault, .int .i64 S.fuel]] w (NewSt w S) := by
  have hsm := totSt_small hs
  obtain ⟨s0, s1, s2, s3, s4, s5, s6⟩ := hsm
  obtain ⟨⟨A0, a0, rfl⟩, ⟨A1, a1, rfl⟩, ⟨A2, a2, rfl⟩, ⟨A3, a3, rfl⟩, ⟨A4, a4, rfl⟩, ⟨A5, a5, rfl⟩, ⟨A6, a6, rfl⟩⟩ := hr.form
  have HR := Lib.hid (fun W (h : Below w.heap.size w W) => hr.below h)
  have N0 : Hid (S.data.length ≤ 4000000) := Lib.hid s0
  have N1 : Hid (S.ret.length ≤ 4000000) := Lib.hid s1
  have N2 : Hid (S.mem.length ≤ 4000000) := Lib.hid s2
  have N3 : Hid (S.cells.length ≤ 4000000) := Lib.hid s3
  have N4 : Hid (S.vars.length ≤ 4000000) := Lib.hid s4
  have N5 : Hid (S.out.length ≤ 4000000) := Lib.hid s5
  have N6 : Hid (S.inp.length ≤ 4000000) := Lib.hid s6
  clear hr hs s0 s1 s2 s3 s4 s5 s6
  have e1 : (w.alloc (.cells #[.slice A0 S.data.length a0, .slice A1 S.ret.length a1, .int .i32 S.a, .slice A2 S.mem.length a2, .slice A3 S.cells.length a3, .slice A4 S.vars.length a4, .slice A5 S.out.length a5, .slice A6 S.inp.length a6, .int .i64 S.fault, .int .i64 S.fuel] 34)).heap.size = w.heap.size + 1 := by simp
  have K0_0 : Hid (Blk ((w.alloc (.cells #[.slice A0 S.data.length a0, .slice A1 S.ret.length a1, .int .i32 S.a, .slice A2 S.mem.length a2, .slice A3 S.cells.length a3, .slice A4 S.vars.length a4, .slice A5 S.out.length a5, .slice A6 S.inp.length a6, .int .i64 S.fault, .int .i64 S.fuel] 34)).alloc (.cells #[.slice none 0 0, .slice none 0 0, .int .i32 0, .slice none 0 0, .slice none 0 0, .slice none 0 0, .slice none 0 0, .slice none 0 0, .int .i64 0, .int .i64 0] 34)) (w.heap.size) 34 #[.slice A0 S.data.length a0, .slice A1 S.ret.length a1, .int .i32 S.a, .slice A2 S.mem.length a2, .slice A3 S.cells.length a3, .slice A4 S.vars.length a4, .slice A5 S.out.length a5, .slice A6 S.inp.length a6, .int .i64 S.fault, .int .i64 S.fuel]) := Lib.hid (((Blk.new w 34 #[.slice A0 S.data.length a0, .slice A1 S.ret.length a1, .int .i32 S.a, .slice A2 S.mem.length a2, .slice A3 S.cells.length a3, .slice A4 S.vars.length a4, .slice A5 S.out.length a5, .slice A6 S.inp.length a6, .int .i64 S.fault, .int .i64 S.fuel]).alloc _))
  have K0_1 : Hid (Blk ((w.alloc (.cells #[.slice A0 S.data.length a0, .slice A1 S.ret.length a1, .int .i32 S.a, .slice A2 S.mem.length a2, .slice A3 S.cells.length a3, .slice A4 S.vars.length a4, .slice A5 S.out.length a5, .slice A6 S.inp.length a6, .int .i64 S.fault, .int .i64 S.fuel] 34)).alloc (.cells #[.slice none 0 0, .slice none 0 0, .int .i32 0, .slice none 0 0, .slice none 0 0, .slice none 0 0, .slice none 0 0, .slice none 0 0, .int .i64 0, .int .i64 0] 34)) (w.heap.size + 1) 34 #[.slice none 0 0, .slice none 0 0, .int .i32 0, .slice none 0 0, .slice none 0 0, .slice none 0 0, .slice none 0 0, .slice none 0 0, .int .i64 0, .int .i64 0]) := Lib.hid (by have := (Blk.new (w.alloc (.cells #[.slice A0 S.data.length a0, .slice A1 S.ret.length a1, .int .i32 S.a, .slice A2 S.mem.length a2, .slice A3 S.cells.length a3, .slice A4 S.vars.length a4, .slice A5 S.out.length a5, .slice A6 S.inp.length a6, .int .i64 S.fault, .int .i64 S.fuel] 34)) 34 #[.slice none 0 0, .slice none 0 0, .int .i32 0, .slice none 0 0, .slice none 0 0, .slice none 0 0, .slice none 0 0, .slice none 0 0, .int .i64 0, .int .i64 0]); rw [e1] at this; exact this)
  have B0 : Hid (Below w.heap.size w ((w.alloc (.cells #[.slice A0 S.data.length a0, .slice A1 S.ret.length a1, .int .i32 S.a, .slice A2 S.mem.length a2, .slice A3 S.cells.length a3, .slice A4 S.vars.length a4, .slice A5 S.out.length a5, .slice A6 S.inp.length a6, .int .i64 S.fault, .int .i64 S.fuel] 34)).alloc (.cells #[.slice none 0 0, .slice none 0 0, .int .i32 0, .slice none 0 0, .slice none 0 0, .slice none 0 0, .slice none 0 0, .slice none 0 0, .int .i64 0, .int .i64 0] 34))) := Lib.hid (below_alloc2 w _ _)
  have Z0 : ((w.alloc (.cells #[.slice A0 S.data.length a0, .slice A1 S.ret.length a1, .int .i32 S.a, .slice A2 S.mem.length a2, .slice A3 S.cells.length a3, .slice A4 S.vars.length a4, .slice A5 S.out.length a5, .slice A6 S.inp.length a6, .int .i64 S.fault, .int .i64 S.fuel] 34)).alloc (.cells #[.slice none 0 0, .slice none 0 0, .int .i32 0, .slice none 0 0, .slice none 0 0, .slice none 0 0, .slice none 0 0, .slice none 0 0, .int .i64 0, .int .i64 0] 34)).heap.size = w.heap.size + 2 := by simp
  have HZ0 := Lib.hid Z0
  clear Z0 e1
  go_enter Try.func57, Try.ntmps57
  go_wp2_with fail
  refine (cloneI _ S.data (by have := N0.out; omega) _ (HR.out _ B0.out).d).mono ?_
  rintro e w1 ⟨v0, rfl, ho0, hb0⟩
  obtain ⟨C0, c0, rfl⟩ := own_formG ho0
  have zz0 := HZ0.out
  rw [zz0] at ho0
  have sz0 : w.heap.size + 2 ≤ w1.heap.size := by have := hb0.size; rw [zz0] at this; exact this
  have q0_0 := K0_0.out
  have K1_0 : Hid (Blk w1 (w.heap.size) 34 #[.slice A0 S.data.length a0, .slice A1 S.ret.length a1, .int .i32 S.a, .slice A2 S.mem.length a2, .slice A3 S.cells.length a3, .slice A4 S.vars.length a4, .slice A5 S.out.length a5, .slice A6 S.inp.length a6, .int .i64 S.fault, .int .i64 S.fuel]) := Lib.hid (q0_0.below hb0 q0_0.lt)
  have q0_1 := K0_1.out
  have K1_1 : Hid (Blk w1 (w.heap.size + 1) 34 #[.slice none 0 0, .slice none 0 0, .int .i32 0, .slice none 0 0, .slice none 0 0, .slice none 0 0, .slice none 0 0, .slice none 0 0, .int .i64 0, .int .i64 0]) := Lib.hid (q0_1.below hb0 q0_1.lt)
  have B1 : Hid (Below w.heap.size w w1) := Lib.hid (B0.out.trans (hb0.mono B0.out.size))
  have H0 : Hid (∀ k, (Value.slice C0 S.data.length c0).ownBlock = some k → k < w1.heap.size) := Lib.hid (fun k hk => (World.ownsRow.lt ho0 k hk).2)
  have R1_0 := Lib.hid ho0
  obtain ⟨p1_0_0, p1_0_1, p1_0_2, p1_0_3, p1_0_4, p1_0_5, p1_0_6, p1_0_7, p1_0_8, p1_0_9⟩ := st_cells K1_0.out
  obtain ⟨p1_1_0, p1_1_1, p1_1_2, p1_1_3, p1_1_4, p1_1_5, p1_1_6, p1_1_7, p1_1_8, p1_1_9⟩ := st_cells K1_1.out
  have f1_0 := K1_0.out.frozen
  have f1_1 := K1_1.out.frozen
  clear q0_0 K0_0 q0_1 K0_1 B0 ho0 hb0 zz0
  go_wp2_with fail
  refine (cloneS _ S.ret (by have := N1.out; omega) _ (HR.out _ (B1.out.setCell (p := ⟨w.heap.size, 0, none⟩) (show w.heap.size ≤ w.heap.size by omega) (.slice C0 S.data.length c0))).r).mono ?_
  rintro e w2 ⟨v1, rfl, ho1, hb1⟩
  obtain ⟨C1, c1, rfl⟩ := own_formG ho1
  have xz1 : (w1.setCell ⟨w.heap.size, 0, none⟩ (.slice C0 S.data.length c0)).heap.size = w1.heap.size := by simp [World.setCell]
  rw [xz1] at ho1
  have sz1 : w1.heap.size ≤ w2.heap.size := by have := hb1.size; rw [xz1] at this; exact this
  have q1_0 : Blk (w1.setCell ⟨w.heap.size, 0, none⟩ (.slice C0 S.data.length c0)) (w.heap.size) 34 #[.slice C0 S.data.length c0, .slice A1 S.ret.length a1, .int .i32 S.a, .slice A2 S.mem.length a2, .slice A3 S.cells.length a3, .slice A4 S.vars.length a4, .slice A5 S.out.length a5, .slice A6 S.inp.length a6, .int .i64 S.fault, .int .i64 S.fuel] := by have := (K1_0.out.put 0 (.slice C0 S.data.length c0)); simpa using this
  have K2_0 : Hid (Blk w2 (w.heap.size) 34 #[.slice C0 S.data.length c0, .slice A1 S.ret.length a1, .int .i32 S.a, .slice A2 S.mem.length a2, .slice A3 S.cells.length a3, .slice A4 S.vars.length a4, .slice A5 S.out.length a5, .slice A6 S.inp.length a6, .int .i64 S.fault, .int .i64 S.fuel]) := Lib.hid (q1_0.below hb1 q1_0.lt)
  have q1_1 := (K1_1.out.far (p := ⟨w.heap.size, 0, none⟩) (show w.heap.size + 1 ≠ w.heap.size by omega) (.slice C0 S.data.length c0))
  have K2_1 : Hid (Blk w2 (w.heap.size + 1) 34 #[.slice none 0 0, .slice none 0 0, .int .i32 0, .slice none 0 0, .slice none 0 0, .slice none 0 0, .slice none 0 0, .slice none 0 0, .int .i64 0, .int .i64 0]) := Lib.hid (q1_1.below hb1 q1_1.lt)
  have B2 : Hid (Below w.heap.size w w2) := Lib.hid ((B1.out.setCell (p := ⟨w.heap.size, 0, none⟩) (show w.heap.size ≤ w.heap.size by omega) (.slice C0 S.data.length c0)).trans (hb1.mono (by rw [xz1]; exact B1.out.size)))
  have R2_0 := Lib.hid (own_belowG (own_putG R1_0.out (p := ⟨w.heap.size, 0, none⟩) (show w.heap.size < (w.heap.size + 2) by omega) (.slice C0 S.data.length c0)) hb1 (Nat.le_refl _))
  have H1 : Hid (∀ k, (Value.slice C1 S.ret.length c1).ownBlock = some k → k < w2.heap.size) := Lib.hid (fun k hk => (World.ownsRow.lt ho1 k hk).2)
  have R2_1 := Lib.hid ho1
  obtain ⟨p2_0_0, p2_0_1, p2_0_2, p2_0_3, p2_0_4, p2_0_5, p2_0_6, p2_0_7, p2_0_8, p2_0_9⟩ := st_cells K2_0.out
  obtain ⟨p2_1_0, p2_1_1, p2_1_2, p2_1_3, p2_1_4, p2_1_5, p2_1_6, p2_1_7, p2_1_8, p2_1_9⟩ := st_cells K2_1.out
  have f2_0 := K2_0.out.frozen
  have f2_1 := K2_1.out.frozen
  clear q1_0 K1_0 q1_1 K1_1 B1 R1_0 ho1 hb1 xz1 p1_0_0 p1_0_1 p1_0_2 p1_0_3 p1_0_4 p1_0_5 p1_0_6 p1_0_7 p1_0_8 p1_0_9 p1_1_0 p1_1_1 p1_1_2 p1_1_3 p1_1_4 p1_1_5 p1_1_6 p1_1_7 p1_1_8 p1_1_9 f1_0 f1_1
  go_wp2_with fail
  refine (cloneI _ S.mem (by have := N2.out; omega) _ (HR.out _ (B2.out.setCell (p := ⟨w.heap.size, 1, none⟩) (show w.heap.size ≤ w.heap.size by omega) (.slice C1 S.ret.length c1))).m).mono ?_
  rintro e w3 ⟨v2, rfl, ho2, hb2⟩
  obtain ⟨C2, c2, rfl⟩ := own_formG ho2
  have xz2 : (w2.setCell ⟨w.heap.size, 1, none⟩ (.slice C1 S.ret.length c1)).heap.size = w2.heap.size := by simp [World.setCell]
  rw [xz2] at ho2
  have sz2 : w2.heap.size ≤ w3.heap.size := by have := hb2.size; rw [xz2] at this; exact this
  have q2_0 : Blk (w2.setCell ⟨w.heap.size, 1, none⟩ (.slice C1 S.ret.length c1)) (w.heap.size) 34 #[.slice C0 S.data.length c0, .slice C1 S.ret.length c1, .int .i32 S.a, .slice A2 S.mem.length a2, .slice A3 S.cells.length a3, .slice A4 S.vars.length a4, .slice A5 S.out.length a5, .slice A6 S.inp.length a6, .int .i64 S.fault, .int .i64 S.fuel] := by have := (K2_0.out.put 1 (.slice C1 S.ret.length c1)); simpa using this
  have K3_0 : Hid (Blk w3 (w.heap.size) 34 #[.slice C0 S.data.length c0, .slice C1 S.ret.length c1, .int .i32 S.a, .slice A2 S.mem.length a2, .slice A3 S.cells.length a3, .slice A4 S.vars.length a4, .slice A5 S.out.length a5, .slice A6 S.inp.length a6, .int .i64 S.fault, .int .i64 S.fuel]) := Lib.hid (q2_0.below hb2 q2_0.lt)
  have q2_1 := (K2_1.out.far (p := ⟨w.heap.size, 1, none⟩) (show w.heap.size + 1 ≠ w.heap.size by omega) (.slice C1 S.ret.length c1))
  have K3_1 : Hid (Blk w3 (w.heap.size + 1) 34 #[.slice none 0 0, .slice none 0 0, .int .i32 0, .slice none 0 0, .slice none 0 0, .slice none 0 0, .slice none 0 0, .slice none 0 0, .int .i64 0, .int .i64 0]) := Lib.hid (q2_1.below hb2 q2_1.lt)
  have B3 : Hid (Below w.heap.size w w3) := Lib.hid ((B2.out.setCell (p := ⟨w.heap.size, 1, none⟩) (show w.heap.size ≤ w.heap.size by omega) (.slice C1 S.ret.length c1)).trans (hb2.mono (by rw [xz2]; exact B2.out.size)))
  have R3_0 := Lib.hid (own_belowG (own_putG R2_0.out (p := ⟨w.heap.size, 1, none⟩) (show w.heap.size < (w.heap.size + 2) by omega) (.slice C1 S.ret.length c1)) hb2 (Nat.le_refl _))
  have R3_1 := Lib.hid (own_belowG (own_putG R2_1.out (p := ⟨w.heap.size, 1, none⟩) (show w.heap.size < w1.heap.size by omega) (.slice C1 S.ret.length c1)) hb2 (Nat.le_refl _))
  have H2 : Hid (∀ k, (Value.slice C2 S.mem.length c2).ownBlock = some k → k < w3.heap.size) := Lib.hid (fun k hk => (World.ownsRow.lt ho2 k hk).2)
  have R3_2 := Lib.hid ho2
  obtain ⟨p3_0_0, p3_0_1, p3_0_2, p3_0_3, p3_0_4, p3_0_5, p3_0_6, p3_0_7, p3_0_8, p3_0_9⟩ := st_cells K3_0.out
  obtain ⟨p3_1_0, p3_1_1, p3_1_2, p3_1_3, p3_1_4, p3_1_5, p3_1_6, p3_1_7, p3_1_8, p3_1_9⟩ := st_cells K3_1.out
  have f3_0 := K3_0.out.frozen
  have f3_1 := K3_1.out.frozen
  clear q2_0 K2_0 q2_1 K2_1 B2 R2_0 R2_1 ho2 hb2 xz2 p2_0_0 p2_0_1 p2_0_2 p2_0_3 p2_0_4 p2_0_5 p2_0_6 p2_0_7 p2_0_8 p2_0_9 p2_1_0 p2_1_1 p2_1_2 p2_1_3 p2_1_4 p2_1_5 p2_1_6 p2_1_7 p2_1_8 p2_1_9 f2_0 f2_1
  go_wp2_with fail
  refine (cloneN _ S.cells (by have := N3.out; omega) _ (HR.out _ (B3.out.setCell (p := ⟨w.heap.size, 3, none⟩) (show w.heap.size ≤ w.heap.size by omega) (.slice C2 S.mem.length c2))).c).mono ?_
  rintro e w4 ⟨v3, rfl, ho3, hb3⟩
  obtain ⟨C3, c3, rfl⟩ := own_formG ho3
  have xz3 : (w3.setCell ⟨w.heap.size, 3, none⟩ (.slice C2 S.mem.length c2)).heap.size = w3.heap.size := by simp [World.setCell]
  rw [xz3] at ho3
  have sz3 : w3.heap.size ≤ w4.heap.size := by have := hb3.size; rw [xz3] at this; exact this
  have q3_0 : Blk (w3.setCell ⟨w.heap.size, 3, none⟩ (.slice C2 S.mem.length c2)) (w.heap.size) 34 #[.slice C0 S.data.length c0, .slice C1 S.ret.length c1, .int .i32 S.a, .slice C2 S.mem.length c2, .slice A3 S.cells.length a3, .slice A4 S.vars.length a4, .slice A5 S.out.length a5, .slice A6 S.inp.length a6, .int .i64 S.fault, .int .i64 S.fuel] := by have := (K3_0.out.put 3 (.slice C2 S.mem.length c2)); simpa using this
  have K4_0 : Hid (Blk w4 (w.heap.size) 34 #[.slice C0 S.data.length c0, .slice C1 S.ret.length c1, .int .i32 S.a, .slice C2 S.mem.length c2, .slice A3 S.cells.length a3, .slice A4 S.vars.length a4, .slice A5 S.out.length a5, .slice A6 S.inp.length a6, .int .i64 S.fault, .int .i64 S.fuel]) := Lib.hid (q3_0.below hb3 q3_0.lt)
  have q3_1 := (K3_1.out.far (p := ⟨w.heap.size, 3, none⟩) (show w.heap.size + 1 ≠ w.heap.size by omega) (.slice C2 S.mem.length c2))
  have K4_1 : Hid (Blk w4 (w.heap.size + 1) 34 #[.slice none 0 0, .slice none 0 0, .int .i32 0, .slice none 0 0, .slice none 0 0, .slice none 0 0, .slice none 0 0, .slice none 0 0, .int .i64 0, .int .i64 0]) := Lib.hid (q3_1.below hb3 q3_1.lt)
  have B4 : Hid (Below w.heap.size w w4) := Lib.hid ((B3.out.setCell (p := ⟨w.heap.size, 3, none⟩) (show w.heap.size ≤ w.heap.size by omega) (.slice C2 S.mem.length c2)).trans (hb3.mono (by rw [xz3]; exact B3.out.size)))
  have R4_0 := Lib.hid (own_belowG (own_putG R3_0.out (p := ⟨w.heap.size, 3, none⟩) (show w.heap.size < (w.heap.size + 2) by omega) (.slice C2 S.mem.length c2)) hb3 (Nat.le_refl _))
  have R4_1 := Lib.hid (own_belowG (own_putG R3_1.out (p := ⟨w.heap.size, 3, none⟩) (show w.heap.size < w1.heap.size by omega) (.slice C2 S.mem.length c2)) hb3 (Nat.le_refl _))
  have R4_2 := Lib.hid (own_belowG (own_putG R3_2.out (p := ⟨w.heap.size, 3, none⟩) (show w.heap.size < w2.heap.size by omega) (.slice C2 S.mem.length c2)) hb3 (Nat.le_refl _))
  have H3 : Hid (∀ k, (Value.slice C3 S.cells.length c3).ownBlock = some k → k < w4.heap.size) := Lib.hid (fun k hk => (World.ownsRow.lt ho3 k hk).2)
  have R4_3 := Lib.hid ho3
  obtain ⟨p4_0_0, p4_0_1, p4_0_2, p4_0_3, p4_0_4, p4_0_5, p4_0_6, p4_0_7, p4_0_8, p4_0_9⟩ := st_cells K4_0.out
  obtain ⟨p4_1_0, p4_1_1, p4_1_2, p4_1_3, p4_1_4, p4_1_5, p4_1_6, p4_1_7, p4_1_8, p4_1_9⟩ := st_cells K4_1.out
  have f4_0 := K4_0.out.frozen
  have f4_1 := K4_1.out.frozen
  clear q3_0 K3_0 q3_1 K3_1 B3 R3_0 R3_1 R3_2 ho3 hb3 xz3 p3_0_0 p3_0_1 p3_0_2 p3_0_3 p3_0_4 p3_0_5 p3_0_6 p3_0_7 p3_0_8 p3_0_9 p3_1_0 p3_1_1 p3_1_2 p3_1_3 p3_1_4 p3_1_5 p3_1_6 p3_1_7 p3_1_8 p3_1_9 f3_0 f3_1
  go_wp2_with fail
  refine (cloneL _ S.vars (by have := N4.out; omega) _ (HR.out _ (B4.out.setCell (p := ⟨w.heap.size, 4, none⟩) (show w.heap.size ≤ w.heap.size by omega) (.slice C3 S.cells.length c3))).v).mono ?_
  rintro e w5 ⟨v4, rfl, ho4, hb4⟩
  obtain ⟨C4, c4, rfl⟩ := own_formG ho4
  have xz4 : (w4.setCell ⟨w.heap.size, 4, none⟩ (.slice C3 S.cells.length c3)).heap.size = w4.heap.size := by simp [World.setCell]
  rw [xz4] at ho4
  have sz4 : w4.heap.size ≤ w5.heap.size := by have := hb4.size; rw [xz4] at this; exact this
  have q4_0 : Blk (w4.setCell ⟨w.heap.size, 4, none⟩ (.slice C3 S.cells.length c3)) (w.heap.size) 34 #[.slice C0 S.data.length c0, .slice C1 S.ret.length c1, .int .i32 S.a, .slice C2 S.mem.length c2, .slice C3 S.cells.length c3, .slice A4 S.vars.length a4, .slice A5 S.out.length a5, .slice A6 S.inp.length a6, .int .i64 S.fault, .int .i64 S.fuel] := by have := (K4_0.out.put 4 (.slice C3 S.cells.length c3)); simpa using this
  have K5_0 : Hid (Blk w5 (w.heap.size) 34 #[.slice C0 S.data.length c0, .slice C1 S.ret.length c1, .int .i32 S.a, .slice C2 S.mem.length c2, .slice C3 S.cells.length c3, .slice A4 S.vars.length a4, .slice A5 S.out.length a5, .slice A6 S.inp.length a6, .int .i64 S.fault, .int .i64 S.fuel]) := Lib.hid (q4_0.below hb4 q4_0.lt)
  have q4_1 := (K4_1.out.far (p := ⟨w.heap.size, 4, none⟩) (show w.heap.size + 1 ≠ w.heap.size by omega) (.slice C3 S.cells.length c3))
  have K5_1 : Hid (Blk w5 (w.heap.size + 1) 34 #[.slice none 0 0, .slice none 0 0, .int .i32 0, .slice none 0 0, .slice none 0 0, .slice none 0 0, .slice none 0 0, .slice none 0 0, .int .i64 0, .int .i64 0]) := Lib.hid (q4_1.below hb4 q4_1.lt)
  have B5 : Hid (Below w.heap.size w w5) := Lib.hid ((B4.out.setCell (p := ⟨w.heap.size, 4, none⟩) (show w.heap.size ≤ w.heap.size by omega) (.slice C3 S.cells.length c3)).trans (hb4.mono (by rw [xz4]; exact B4.out.size)))
  have R5_0 := Lib.hid (own_belowG (own_putG R4_0.out (p := ⟨w.heap.size, 4, none⟩) (show w.heap.size < (w.heap.size + 2) by omega) (.slice C3 S.cells.length c3)) hb4 (Nat.le_refl _))
  have R5_1 := Lib.hid (own_belowG (own_putG R4_1.out (p := ⟨w.heap.size, 4, none⟩) (show w.heap.size < w1.heap.size by omega) (.slice C3 S.cells.length c3)) hb4 (Nat.le_refl _))
  have R5_2 := Lib.hid (own_belowG (own_putG R4_2.out (p := ⟨w.heap.size, 4, none⟩) (show w.heap.size < w2.heap.size by omega) (.slice C3 S.cells.length c3)) hb4 (Nat.le_refl _))
  have R5_3 := Lib.hid (own_belowG (own_putG R4_3.out (p := ⟨w.heap.size, 4, none⟩) (show w.heap.size < w3.heap.size by omega) (.slice C3 S.cells.length c3)) hb4 (Nat.le_refl _))
  have H4 : Hid (∀ k, (Value.slice C4 S.vars.length c4).ownBlock = some k → k < w5.heap.size) := Lib.hid (fun k hk => (World.ownsRow.lt ho4 k hk).2)
  have R5_4 := Lib.hid ho4
  obtain ⟨p5_0_0, p5_0_1, p5_0_2, p5_0_3, p5_0_4, p5_0_5, p5_0_6, p5_0_7, p5_0_8, p5_0_9⟩ := st_cells K5_0.out
  obtain ⟨p5_1_0, p5_1_1, p5_1_2, p5_1_3, p5_1_4, p5_1_5, p5_1_6, p5_1_7, p5_1_8, p5_1_9⟩ := st_cells K5_1.out
  have f5_0 := K5_0.out.frozen
  have f5_1 := K5_1.out.frozen
  clear q4_0 K4_0 q4_1 K4_1 B4 R4_0 R4_1 R4_2 R4_3 ho4 hb4 xz4 p4_0_0 p4_0_1 p4_0_2 p4_0_3 p4_0_4 p4_0_5 p4_0_6 p4_0_7 p4_0_8 p4_0_9 p4_1_0 p4_1_1 p4_1_2 p4_1_3 p4_1_4 p4_1_5 p4_1_6 p4_1_7 p4_1_8 p4_1_9 f4_0 f4_1
  go_wp2_with fail
  refine (cloneB _ S.out (by have := N5.out; omega) _ (HR.out _ (B5.out.setCell (p := ⟨w.heap.size, 5, none⟩) (show w.heap.size ≤ w.heap.size by omega) (.slice C4 S.vars.length c4))).o).mono ?_
  rintro e w6 ⟨v5, rfl, ho5, hb5⟩
  obtain ⟨C5, c5, rfl⟩ := own_formG ho5
  have xz5 : (w5.setCell ⟨w.heap.size, 5, none⟩ (.slice C4 S.vars.length c4)).heap.size = w5.heap.size := by simp [World.setCell]
  rw [xz5] at ho5
  have sz5 : w5.heap.size ≤ w6.heap.size := by have := hb5.size; rw [xz5] at this; exact this
  have q5_0 : Blk (w5.setCell ⟨w.heap.size, 5, none⟩ (.slice C4 S.vars.length c4)) (w.heap.size) 34 #[.slice C0 S.data.length c0, .slice C1 S.ret.length c1, .int .i32 S.a, .slice C2 S.mem.length c2, .slice C3 S.cells.length c3, .slice C4 S.vars.length c4, .slice A5 S.out.length a5, .slice A6 S.inp.length a6, .int .i64 S.fault, .int .i64 S.fuel] := by have := (K5_0.out.put 5 (.slice C4 S.vars.length c4)); simpa using this
  have K6_0 : Hid (Blk w6 (w.heap.size) 34 #[.slice C0 S.data.length c0, .slice C1 S.ret.length c1, .int .i32 S.a, .slice C2 S.mem.length c2, .slice C3 S.cells.length c3, .slice C4 S.vars.length c4, .slice A5 S.out.length a5, .slice A6 S.inp.length a6, .int .i64 S.fault, .int .i64 S.fuel]) := Lib.hid (q5_0.below hb5 q5_0.lt)
  have q5_1 := (K5_1.out.far (p := ⟨w.heap.size, 5, none⟩) (show w.heap.size + 1 ≠ w.heap.size by omega) (.slice C4 S.vars.length c4))
  have K6_1 : Hid (Blk w6 (w.heap.size + 1) 34 #[.slice none 0 0, .slice none 0 0, .int .i32 0, .slice none 0 0, .slice none 0 0, .slice none 0 0, .slice none 0 0, .slice none 0 0, .int .i64 0, .int .i64 0]) := Lib.hid (q5_1.below hb5 q5_1.lt)
  have B6 : Hid (Below w.heap.size w w6) := Lib.hid ((B5.out.setCell (p := ⟨w.heap.size, 5, none⟩) (show w.heap.size ≤ w.heap.size by omega) (.slice C4 S.vars.length c4)).trans (hb5.mono (by rw [xz5]; exact B5.out.size)))
  have R6_0 := Lib.hid (own_belowG (own_putG R5_0.out (p := ⟨w.heap.size, 5, none⟩) (show w.heap.size < (w.heap.size + 2) by omega) (.slice C4 S.vars.length c4)) hb5 (Nat.le_refl _))
  have R6_1 := Lib.hid (own_belowG (own_putG R5_1.out (p := ⟨w.heap.size, 5, none⟩) (show w.heap.size < w1.heap.size by omega) (.slice C4 S.vars.length c4)) hb5 (Nat.le_refl _))
  have R6_2 := Lib.hid (own_belowG (own_putG R5_2.out (p := ⟨w.heap.size, 5, none⟩) (show w.heap.size < w2.heap.size by omega) (.slice C4 S.vars.length c4)) hb5 (Nat.le_refl _))
  have R6_3 := Lib.hid (own_belowG (own_putG R5_3.out (p := ⟨w.heap.size, 5, none⟩) (show w.heap.size < w3.heap.size by omega) (.slice C4 S.vars.length c4)) hb5 (Nat.le_refl _))
  have R6_4 := Lib.hid (own_belowG (own_putG R5_4.out (p := ⟨w.heap.size, 5, none⟩) (show w.heap.size < w4.heap.size by omega) (.slice C4 S.vars.length c4)) hb5 (Nat.le_refl _))
  have H5 : Hid (∀ k, (Value.slice C5 S.out.length c5).ownBlock = some k → k < w6.heap.size) := Lib.hid (fun k hk => (World.ownsRow.lt ho5 k hk).2)
  have R6_5 := Lib.hid ho5
  obtain ⟨p6_0_0, p6_0_1, p6_0_2, p6_0_3, p6_0_4, p6_0_5, p6_0_6, p6_0_7, p6_0_8, p6_0_9⟩ := st_cells K6_0.out
  obtain ⟨p6_1_0, p6_1_1, p6_1_2, p6_1_3, p6_1_4, p6_1_5, p6_1_6, p6_1_7, p6_1_8, p6_1_9⟩ := st_cells K6_1.out
  have f6_0 := K6_0.out.frozen
  have f6_1 := K6_1.out.frozen
  clear q5_0 K5_0 q5_1 K5_1 B5 R5_0 R5_1 R5_2 R5_3 R5_4 ho5 hb5 xz5 p5_0_0 p5_0_1 p5_0_2 p5_0_3 p5_0_4 p5_0_5 p5_0_6 p5_0_7 p5_0_8 p5_0_9 p5_1_0 p5_1_1 p5_1_2 p5_1_3 p5_1_4 p5_1_5 p5_1_6 p5_1_7 p5_1_8 p5_1_9 f5_0 f5_1
  go_wp2_with fail
  refine (cloneB _ S.inp (by have := N6.out; omega) _ (HR.out _ (B6.out.setCell (p := ⟨w.heap.size, 6, none⟩) (show w.heap.size ≤ w.heap.size by omega) (.slice C5 S.out.length c5))).i).mono ?_
  rintro e w7 ⟨v6, rfl, ho6, hb6⟩
  obtain ⟨C6, c6, rfl⟩ := own_formG ho6
  have xz6 : (w6.setCell ⟨w.heap.size, 6, none⟩ (.slice C5 S.out.length c5)).heap.size = w6.heap.size := by simp [World.setCell]
  rw [xz6] at ho6
  have sz6 : w6.heap.size ≤ w7.heap.size := by have := hb6.size; rw [xz6] at this; exact this
  have q6_0 : Blk (w6.setCell ⟨w.heap.size, 6, none⟩ (.slice C5 S.out.length c5)) (w.heap.size) 34 #[.slice C0 S.data.length c0, .slice C1 S.ret.length c1, .int .i32 S.a, .slice C2 S.mem.length c2, .slice C3 S.cells.length c3, .slice C4 S.vars.length c4, .slice C5 S.out.length c5, .slice A6 S.inp.length a6, .int .i64 S.fault, .int .i64 S.fuel] := by have := (K6_0.out.put 6 (.slice C5 S.out.length c5)); simpa using this
  have K7_0 : Hid (Blk w7 (w.heap.size) 34 #[.slice C0 S.data.length c0, .slice C1 S.ret.length c1, .int .i32 S.a, .slice C2 S.mem.length c2, .slice C3 S.cells.length c3, .slice C4 S.vars.length c4, .slice C5 S.out.length c5, .slice A6 S.inp.length a6, .int .i64 S.fault, .int .i64 S.fuel]) := Lib.hid (q6_0.below hb6 q6_0.lt)
  have q6_1 := (K6_1.out.far (p := ⟨w.heap.size, 6, none⟩) (show w.heap.size + 1 ≠ w.heap.size by omega) (.slice C5 S.out.length c5))
  have K7_1 : Hid (Blk w7 (w.heap.size + 1) 34 #[.slice none 0 0, .slice none 0 0, .int .i32 0, .slice none 0 0, .slice none 0 0, .slice none 0 0, .slice none 0 0, .slice none 0 0, .int .i64 0, .int .i64 0]) := Lib.hid (q6_1.below hb6 q6_1.lt)
  have B7 : Hid (Below w.heap.size w w7) := Lib.hid ((B6.out.setCell (p := ⟨w.heap.size, 6, none⟩) (show w.heap.size ≤ w.heap.size by omega) (.slice C5 S.out.length c5)).trans (hb6.mono (by rw [xz6]; exact B6.out.size)))
  have R7_0 := Lib.hid (own_belowG (own_putG R6_0.out (p := ⟨w.heap.size, 6, none⟩) (show w.heap.size < (w.heap.size + 2) by omega) (.slice C5 S.out.length c5)) hb6 (Nat.le_refl _))
  have R7_1 := Lib.hid (own_belowG (own_putG R6_1.out (p := ⟨w.heap.size, 6, none⟩) (show w.heap.size < w1.heap.size by omega) (.slice C5 S.out.length c5)) hb6 (Nat.le_refl _))
  have R7_2 := Lib.hid (own_belowG (own_putG R6_2.out (p := ⟨w.heap.size, 6, none⟩) (show w.heap.size < w2.heap.size by omega) (.slice C5 S.out.length c5)) hb6 (Nat.le_refl _))
  have R7_3 := Lib.hid (own_belowG (own_putG R6_3.out (p := ⟨w.heap.size, 6, none⟩) (show w.heap.size < w3.heap.size by omega) (.slice C5 S.out.length c5)) hb6 (Nat.le_refl _))
  have R7_4 := Lib.hid (own_belowG (own_putG R6_4.out (p := ⟨w.heap.size, 6, none⟩) (show w.heap.size < w4.heap.size by omega) (.slice C5 S.out.length c5)) hb6 (Nat.le_refl _))
  have R7_5 := Lib.hid (own_belowG (own_putG R6_5.out (p := ⟨w.heap.size, 6, none⟩) (show w.heap.size < w5.heap.size by omega) (.slice C5 S.out.length c5)) hb6 (Nat.le_refl _))
  have H6 : Hid (∀ k, (Value.slice C6 S.inp.length c6).ownBlock = some k → k < w7.heap.size) := Lib.hid (fun k hk => (World.ownsRow.lt ho6 k hk).2)
  have R7_6 := Lib.hid ho6
  obtain ⟨p7_0_0, p7_0_1, p7_0_2, p7_0_3, p7_0_4, p7_0_5, p7_0_6, p7_0_7, p7_0_8, p7_0_9⟩ := st_cells K7_0.out
  obtain ⟨p7_1_0, p7_1_1, p7_1_2, p7_1_3, p7_1_4, p7_1_5, p7_1_6, p7_1_7, p7_1_8, p7_1_9⟩ := st_cells K7_1.out
  have f7_0 := K7_0.out.frozen
  have f7_1 := K7_1.out.frozen
  clear q6_0 K6_0 q6_1 K6_1 B6 R6_0 R6_1 R6_2 R6_3 R6_4 R6_5 ho6 hb6 xz6 p6_0_0 p6_0_1 p6_0_2 p6_0_3 p6_0_4 p6_0_5 p6_0_6 p6_0_7 p6_0_8 p6_0_9 p6_1_0 p6_1_1 p6_1_2 p6_1_3 p6_1_4 p6_1_5 p6_1_6 p6_1_7 p6_1_8 p6_1_9 f6_0 f6_1
  go_wp2_with fail
  have u0 : Blk (w7.setCell ⟨w.heap.size, 7, none⟩ (.slice C6 S.inp.length c6)) (w.heap.size) 34 #[.slice C0 S.data.length c0, .slice C1 S.ret.length c1, .int .i32 S.a, .slice C2 S.mem.length c2, .slice C3 S.cells.length c3, .slice C4 S.vars.length c4, .slice C5 S.out.length c5, .slice C6 S.inp.length c6, .int .i64 S.fault, .int .i64 S.fuel] := by have := K7_0.out.put 7 (.slice C6 S.inp.length c6); simpa using this
  have b1 : Blk (w7.setCell ⟨w.heap.size, 7, none⟩ (.slice C6 S.inp.length c6)) (w.heap.size + 1) 34 #[.slice none 0 0, .slice none 0 0, .int .i32 0, .slice none 0 0, .slice none 0 0, .slice none 0 0, .slice none 0 0, .slice none 0 0, .int .i64 0, .int .i64 0] := K7_1.out.far (p := ⟨w.heap.size, 7, none⟩) (show w.heap.size + 1 ≠ w.heap.size by omega) _
  have b2 : Below w.heap.size w (w7.setCell ⟨w.heap.size, 7, none⟩ (.slice C6 S.inp.length c6)) := B7.out.setCell (p := ⟨w.heap.size, 7, none⟩) (show w.heap.size ≤ w.heap.size by omega) _
  have t0 := own_putG R7_0.out (p := ⟨w.heap.size, 7, none⟩) (show w.heap.size < (w.heap.size + 2) by omega) (.slice C6 S.inp.length c6)
  have t1 := own_putG R7_1.out (p := ⟨w.heap.size, 7, none⟩) (show w.heap.size < w1.heap.size by omega) (.slice C6 S.inp.length c6)
  have t2 := own_putG R7_2.out (p := ⟨w.heap.size, 7, none⟩) (show w.heap.size < w2.heap.size by omega) (.slice C6 S.inp.length c6)
  have t3 := own_putG R7_3.out (p := ⟨w.heap.size, 7, none⟩) (show w.heap.size < w3.heap.size by omega) (.slice C6 S.inp.length c6)
  have t4 := own_putG R7_4.out (p := ⟨w.heap.size, 7, none⟩) (show w.heap.size < w4.heap.size by omega) (.slice C6 S.inp.length c6)
  have t5 := own_putG R7_5.out (p := ⟨w.heap.size, 7, none⟩) (show w.heap.size < w5.heap.size by omega) (.slice C6 S.inp.length c6)
  have t6 := own_putG R7_6.out (p := ⟨w.heap.size, 7, none⟩) (show w.heap.size < w6.heap.size by omega) (.slice C6 S.inp.length c6)
  clear u0 K7_0 K7_1 B7 R7_0 R7_1 R7_2 R7_3 R7_4 R7_5 R7_6
  show bodyPost _ _ _ _ _ (putSt (w7.setCell ⟨w.heap.size, 7, none⟩ (.slice C6 S.inp.length c6)) (w.heap.size + 1) (.slice C0 S.data.length c0) (.slice C1 S.ret.length c1) (.int .i32 S.a) (.slice C2 S.mem.length c2) (.slice C3 S.cells.length c3) (.slice C4 S.vars.length c4) (.slice C5 S.out.length c5) (.slice C6 S.inp.length c6) (.int .i64 S.fault) (.int .i64 S.fuel))
  have y1 := putSt_blk b1 (.slice C0 S.data.length c0) (.slice C1 S.ret.length c1) (.int .i32 S.a) (.slice C2 S.mem.length c2) (.slice C3 S.cells.length c3) (.slice C4 S.vars.length c4) (.slice C5 S.out.length c5) (.slice C6 S.inp.length c6) (.int .i64 S.fault) (.int .i64 S.fuel)
  have y2 := b2.grown (putSt_only (w7.setCell ⟨w.heap.size, 7, none⟩ (.slice C6 S.inp.length c6)) (w.heap.size + 1) (.slice C0 S.data.length c0) (.slice C1 S.ret.length c1) (.int .i32 S.a) (.slice C2 S.mem.length c2) (.slice C3 S.cells.length c3) (.slice C4 S.vars.length c4) (.slice C5 S.out.length c5) (.slice C6 S.inp.length c6) (.int .i64 S.fault) (.int .i64 S.fuel)) b2.size (fun k hk => by injection hk with hk; omega)
  have g0 := own_setSt t0 (g := w.heap.size + 1) (by omega) (.slice C0 S.data.length c0) (.slice C1 S.ret.length c1) (.int .i32 S.a) (.slice C2 S.mem.length c2) (.slice C3 S.cells.length c3) (.slice C4 S.vars.length c4) (.slice C5 S.out.length c5) (.slice C6 S.inp.length c6) (.int .i64 S.fault) (.int .i64 S.fuel)
  have g1 := own_setSt t1 (g := w.heap.size + 1) (by omega) (.slice C0 S.data.length c0) (.slice C1 S.ret.length c1) (.int .i32 S.a) (.slice C2 S.mem.length c2) (.slice C3 S.cells.length c3) (.slice C4 S.vars.length c4) (.slice C5 S.out.length c5) (.slice C6 S.inp.length c6) (.int .i64 S.fault) (.int .i64 S.fuel)
  have g2 := own_setSt t2 (g := w.heap.size + 1) (by omega) (.slice C0 S.data.length c0) (.slice C1 S.ret.length c1) (.int .i32 S.a) (.slice C2 S.mem.length c2) (.slice C3 S.cells.length c3) (.slice C4 S.vars.length c4) (.slice C5 S.out.length c5) (.slice C6 S.inp.length c6) (.int .i64 S.fault) (.int .i64 S.fuel)
  have g3 := own_setSt t3 (g := w.heap.size + 1) (by omega) (.slice C0 S.data.length c0) (.slice C1 S.ret.length c1) (.int .i32 S.a) (.slice C2 S.mem.length c2) (.slice C3 S.cells.length c3) (.slice C4 S.vars.length c4) (.slice C5 S.out.length c5) (.slice C6 S.inp.length c6) (.int .i64 S.fault) (.int .i64 S.fuel)
  have g4 := own_setSt t4 (g := w.heap.size + 1) (by omega) (.slice C0 S.data.length c0) (.slice C1 S.ret.length c1) (.int .i32 S.a) (.slice C2 S.mem.length c2) (.slice C3 S.cells.length c3) (.slice C4 S.vars.length c4) (.slice C5 S.out.length c5) (.slice C6 S.inp.length c6) (.int .i64 S.fault) (.int .i64 S.fuel)
  have g5 := own_setSt t5 (g := w.heap.size + 1) (by omega) (.slice C0 S.data.length c0) (.slice C1 S.ret.length c1) (.int .i32 S.a) (.slice C2 S.mem.length c2) (.slice C3 S.cells.length c3) (.slice C4 S.vars.length c4) (.slice C5 S.out.length c5) (.slice C6 S.inp.length c6) (.int .i64 S.fault) (.int .i64 S.fuel)
  have g6 := own_setSt t6 (g := w.heap.size + 1) (by omega) (.slice C0 S.data.length c0) (.slice C1 S.ret.length c1) (.int .i32 S.a) (.slice C2 S.mem.length c2) (.slice C3 S.cells.length c3) (.slice C4 S.vars.length c4) (.slice C5 S.out.length c5) (.slice C6 S.inp.length c6) (.int .i64 S.fault) (.int .i64 S.fuel)
  clear b1 b2 t0 t1 t2 t3 t4 t5 t6
  generalize putSt (w7.setCell ⟨w.heap.size, 7, none⟩ (.slice C6 S.inp.length c6)) (w.heap.size + 1) (.slice C0 S.data.length c0) (.slice C1 S.ret.length c1) (.int .i32 S.a) (.slice C2 S.mem.length c2) (.slice C3 S.cells.length c3) (.slice C4 S.vars.length c4) (.slice C5 S.out.length c5) (.slice C6 S.inp.length c6) (.int .i64 S.fault) (.int .i64 S.fuel) = W at y1 y2 g0 g1 g2 g3 g4 g5 g6 ⊢
  obtain ⟨z0, z1, z2, z3, z4, z5, z6, z7, z8, z9⟩ := st_cells y1
  refine bodyPost_ret (v := .agg #[.slice C0 S.data.length c0, .slice C1 S.ret.length c1, .int .i32 S.a, .slice C2 S.mem.length c2, .slice C3 S.cells.length c3, .slice C4 S.vars.length c4, .slice C5 S.out.length c5, .slice C6 S.inp.length c6, .int .i64 S.fault, .int .i64 S.fuel]) (by simp [results, Try.results57, z0, z1, z2, z3, z4, z5, z6, z7, z8, z9, go_sem]) rfl ⟨_, _, _, _, _, _, _, rfl, ?_, y2⟩
  exact OwnSt.of7 (g0.mono (by omega)) (g1.mono (by omega)) (g2.mono (by omega)) (g3.mono (by omega)) (g4.mono (by omega)) (g5.mono (by omega)) (g6.mono (by omega)) (apart_lt H0.out g2 (by omega)) (apart_lt H5.out g6 (by omega))
end Go.Proofs.Ytmnfdbgiemappaa
