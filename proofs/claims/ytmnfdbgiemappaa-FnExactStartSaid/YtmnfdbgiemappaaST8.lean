/-
  spec.l08Copy: a copy of a state, all its lists new.
  spec.l08Fault: a copy of a state with a fault.
  spec.l08Put: numbers taken out of Data, others put on.
  spec.l08Put in one; the size of what it makes.
  (*bench).take; numbers taken and told.
  The words that tell nothing, on a bench.
  The words that set A; faults.
-/
import Derived.Test.YtmnfdbgiemappaaST7
import Derived.Test.YtmnfdbgiemappaaST6
import Derived.Deep.Cut
namespace Go.Proofs.Ytmnfdbgiemappaa
open Go.RowKit Go

set_option maxRecDepth 100000 in
set_option maxHeartbeats 8000000 in
theorem spec_copy (d r m c v o i : Value) (S : S8) (hs : totSt S ≤ 4000000) (w : World) (hr : RdSt w d r m c v o i S) :
    Calls Try.prog 52 #[.agg #[d, r, .int .i32 S.a, m, c, v, o, i, .int .i64 S.fault, .int .i64 S.fuel]] w (NewSt w S) := by
  obtain ⟨iI, hiI, hzI0, hzI1, hzI2⟩ := info_parts infoI
  obtain ⟨iS, hiS, hzS0, hzS1, hzS2⟩ := info_parts infoS
  obtain ⟨iL, hiL, hzL0, hzL1, hzL2⟩ := info_parts infoL
  obtain ⟨iN, hiN, hzN0, hzN1, hzN2⟩ := info_parts infoU32
  obtain ⟨iB, hiB, hzB0, hzB1, hzB2⟩ := info_parts infoB8
  have hsm := totSt_small hs
  obtain ⟨s0, s1, s2, s3, s4, s5, s6⟩ := hsm
  obtain ⟨⟨A0, a0, rfl⟩, ⟨A1, a1, rfl⟩, ⟨A2, a2, rfl⟩, ⟨A3, a3, rfl⟩, ⟨A4, a4, rfl⟩, ⟨A5, a5, rfl⟩, ⟨A6, a6, rfl⟩⟩ := hr.form
  have HR := Lib.hid (fun W (h : Below w.heap.size w W) => hr.below h)
  have N0 : Hid (S.data.length ≤ 4000000) := Lib.hid s0
  have N1 : Hid (S.ret.length ≤ 4000000) := Lib.hid s1
  have N2 : Hid (S.mem.length ≤ 4000000) := Lib.hid s2
  have N3 : Hid (S.cells.length ≤ 4000000) := Lib.hid s3
  have N4 : Hid (S.vars.length ≤ 4000000) := Lib.hid s4
  have N5 : Hid (S.out.length ≤ 4000000) := Lib.hid s5
  have N6 : Hid (S.inp.length ≤ 4000000) := Lib.hid s6
  clear hr hs s0 s1 s2 s3 s4 s5 s6
  have e1 : (w.alloc (.cells #[.slice A0 S.data.length a0, .slice A1 S.ret.length a1, .int .i32 S.a, .slice A2 S.mem.length a2, .slice A3 S.cells.length a3, .slice A4 S.vars.length a4, .slice A5 S.out.length a5, .slice A6 S.inp.length a6, .int .i64 S.fault, .int .i64 S.fuel] 34)).heap.size = w.heap.size + 1 := by simp
  have K0_0 : Hid (Blk ((w.alloc (.cells #[.slice A0 S.data.length a0, .slice A1 S.ret.length a1, .int .i32 S.a, .slice A2 S.mem.length a2, .slice A3 S.cells.length a3, .slice A4 S.vars.length a4, .slice A5 S.out.length a5, .slice A6 S.inp.length a6, .int .i64 S.fault, .int .i64 S.fuel] 34)).alloc (.cells #[.slice none 0 0, .slice none 0 0, .int .i32 0, .slice none 0 0, .slice none 0 0, .slice none 0 0, .slice none 0 0, .slice none 0 0, .int .i64 0, .int .i64 0] 34)) (w.heap.size) 34 #[.slice A0 S.data.length a0, .slice A1 S.ret.length a1, .int .i32 S.a, .slice A2 S.mem.length a2, .slice A3 S.cells.length a3, .slice A4 S.vars.length a4, .slice A5 S.out.length a5, .slice A6 S.inp.length a6, .int .i64 S.fault, .int .i64 S.fuel]) := Lib.hid (((Blk.new w 34 #[.slice A0 S.data.length a0, .slice A1 S.ret.length a1, .int .i32 S.a, .slice A2 S.mem.length a2, .slice A3 S.cells.length a3, .slice A4 S.vars.length a4, .slice A5 S.out.length a5, .slice A6 S.inp.length a6, .int .i64 S.fault, .int .i64 S.fuel]).alloc _))
  have K0_1 : Hid (Blk ((w.alloc (.cells #[.slice A0 S.data.length a0, .slice A1 S.ret.length a1, .int .i32 S.a, .slice A2 S.mem.length a2, .slice A3 S.cells.length a3, .slice A4 S.vars.length a4, .slice A5 S.out.length a5, .slice A6 S.inp.length a6, .int .i64 S.fault, .int .i64 S.fuel] 34)).alloc (.cells #[.slice none 0 0, .slice none 0 0, .int .i32 0, .slice none 0 0, .slice none 0 0, .slice none 0 0, .slice none 0 0, .slice none 0 0, .int .i64 0, .int .i64 0] 34)) (w.heap.size + 1) 34 #[.slice none 0 0, .slice none 0 0, .int .i32 0, .slice none 0 0, .slice none 0 0, .slice none 0 0, .slice none 0 0, .slice none 0 0, .int .i64 0, .int .i64 0]) := Lib.hid (by have := (Blk.new (w.alloc (.cells #[.slice A0 S.data.length a0, .slice A1 S.ret.length a1, .int .i32 S.a, .slice A2 S.mem.length a2, .slice A3 S.cells.length a3, .slice A4 S.vars.length a4, .slice A5 S.out.length a5, .slice A6 S.inp.length a6, .int .i64 S.fault, .int .i64 S.fuel] 34)) 34 #[.slice none 0 0, .slice none 0 0, .int .i32 0, .slice none 0 0, .slice none 0 0, .slice none 0 0, .slice none 0 0, .slice none 0 0, .int .i64 0, .int .i64 0]); rw [e1] at this; exact this)
  have B0 : Hid (Below w.heap.size w ((w.alloc (.cells #[.slice A0 S.data.length a0, .slice A1 S.ret.length a1, .int .i32 S.a, .slice A2 S.mem.length a2, .slice A3 S.cells.length a3, .slice A4 S.vars.length a4, .slice A5 S.out.length a5, .slice A6 S.inp.length a6, .int .i64 S.fault, .int .i64 S.fuel] 34)).alloc (.cells #[.slice none 0 0, .slice none 0 0, .int .i32 0, .slice none 0 0, .slice none 0 0, .slice none 0 0, .slice none 0 0, .slice none 0 0, .int .i64 0, .int .i64 0] 34))) := Lib.hid (below_alloc2 w _ _)
  have Z0 : ((w.alloc (.cells #[.slice A0 S.data.length a0, .slice A1 S.ret.length a1, .int .i32 S.a, .slice A2 S.mem.length a2, .slice A3 S.cells.length a3, .slice A4 S.vars.length a4, .slice A5 S.out.length a5, .slice A6 S.inp.length a6, .int .i64 S.fault, .int .i64 S.fuel] 34)).alloc (.cells #[.slice none 0 0, .slice none 0 0, .int .i32 0, .slice none 0 0, .slice none 0 0, .slice none 0 0, .slice none 0 0, .slice none 0 0, .int .i64 0, .int .i64 0] 34)).heap.size = w.heap.size + 2 := by simp
  have HZ0 := Lib.hid Z0
  clear Z0 e1
  go_enter Try.func52, Try.ntmps52
  have OE0 : Hid ((((w.alloc (.cells #[.slice A0 S.data.length a0, .slice A1 S.ret.length a1, .int .i32 S.a, .slice A2 S.mem.length a2, .slice A3 S.cells.length a3, .slice A4 S.vars.length a4, .slice A5 S.out.length a5, .slice A6 S.inp.length a6, .int .i64 S.fault, .int .i64 S.fuel] 34)).alloc (.cells #[.slice none 0 0, .slice none 0 0, .int .i32 0, .slice none 0 0, .slice none 0 0, .slice none 0 0, .slice none 0 0, .slice none 0 0, .int .i64 0, .int .i64 0] 34)).alloc (.cells #[] 21)).ownsRow (w.heap.size + 1 + 1) 21 1 (.slice (some ⟨w.heap.size + 1 + 1, 0, none⟩) 0 0) 0 []) := Lib.hid (by have := own_emptyG ((w.alloc (.cells #[.slice A0 S.data.length a0, .slice A1 S.ret.length a1, .int .i32 S.a, .slice A2 S.mem.length a2, .slice A3 S.cells.length a3, .slice A4 S.vars.length a4, .slice A5 S.out.length a5, .slice A6 S.inp.length a6, .int .i64 S.fault, .int .i64 S.fuel] 34)).alloc (.cells #[.slice none 0 0, .slice none 0 0, .int .i32 0, .slice none 0 0, .slice none 0 0, .slice none 0 0, .slice none 0 0, .slice none 0 0, .int .i64 0, .int .i64 0] 34)) 21 1; rw [show ((w.alloc (.cells #[.slice A0 S.data.length a0, .slice A1 S.ret.length a1, .int .i32 S.a, .slice A2 S.mem.length a2, .slice A3 S.cells.length a3, .slice A4 S.vars.length a4, .slice A5 S.out.length a5, .slice A6 S.inp.length a6, .int .i64 S.fault, .int .i64 S.fuel] 34)).alloc (.cells #[.slice none 0 0, .slice none 0 0, .int .i32 0, .slice none 0 0, .slice none 0 0, .slice none 0 0, .slice none 0 0, .slice none 0 0, .int .i64 0, .int .i64 0] 34)).heap.size = w.heap.size + 1 + 1 by simp] at this; exact this)
  have SR0 : Hid (SrcAt (((w.alloc (.cells #[.slice A0 S.data.length a0, .slice A1 S.ret.length a1, .int .i32 S.a, .slice A2 S.mem.length a2, .slice A3 S.cells.length a3, .slice A4 S.vars.length a4, .slice A5 S.out.length a5, .slice A6 S.inp.length a6, .int .i64 S.fault, .int .i64 S.fuel] 34)).alloc (.cells #[.slice none 0 0, .slice none 0 0, .int .i32 0, .slice none 0 0, .slice none 0 0, .slice none 0 0, .slice none 0 0, .slice none 0 0, .int .i64 0, .int .i64 0] 34)).alloc (.cells #[] 21)) 1 (.slice A0 S.data.length a0) S.data.length (S.data.map iv)) := Lib.hid (srcI (HR.out _ (Below.alloc B0.out B0.out.size _)).d)
  go_wp2_with (at_builtin; refine wpList_append_src rfl _ _ 23 rfl (w.heap.size + 1 + 1) 21 iI (.int .i32 0) 1 4 Try.underlying23 hiI hzI0 hzI1 hzI2 rfl (by decide) _ 0 [] rfl OE0.out _ S.data.length (S.data.map iv) rfl SR0.out (oneI _) (by have := N0.out; unfold maxLen; omega) (by have := N0.out; omega) (by simp) ?_; intro v0 w1 ho0 ha0; refine unstop ?_)
  refine Stop.go ?_
  have hb0 : Below ((w.alloc (.cells #[.slice A0 S.data.length a0, .slice A1 S.ret.length a1, .int .i32 S.a, .slice A2 S.mem.length a2, .slice A3 S.cells.length a3, .slice A4 S.vars.length a4, .slice A5 S.out.length a5, .slice A6 S.inp.length a6, .int .i64 S.fault, .int .i64 S.fuel] 34)).alloc (.cells #[.slice none 0 0, .slice none 0 0, .int .i32 0, .slice none 0 0, .slice none 0 0, .slice none 0 0, .slice none 0 0, .slice none 0 0, .int .i64 0, .int .i64 0] 34)).heap.size ((w.alloc (.cells #[.slice A0 S.data.length a0, .slice A1 S.ret.length a1, .int .i32 S.a, .slice A2 S.mem.length a2, .slice A3 S.cells.length a3, .slice A4 S.vars.length a4, .slice A5 S.out.length a5, .slice A6 S.inp.length a6, .int .i64 S.fault, .int .i64 S.fuel] 34)).alloc (.cells #[.slice none 0 0, .slice none 0 0, .int .i32 0, .slice none 0 0, .slice none 0 0, .slice none 0 0, .slice none 0 0, .slice none 0 0, .int .i64 0, .int .i64 0] 34)) w1 := (below_alloc _ _).grown ha0.out.grown (by simp) (fun k hk => by have := own_lt OE0.out k hk; simp; omega)
  have ho0 : w1.ownsRow (w.heap.size + 1 + 1) 21 1 v0 S.data.length (S.data.map iv) := by simpa using ho0
  clear ha0 OE0 SR0
  obtain ⟨C0, c0, rfl⟩ := own_formG ho0
  have zz0 := HZ0.out
  have sz0 : w.heap.size + 2 ≤ w1.heap.size := by have := hb0.size; rw [zz0] at this; exact this
  have q0_0 := K0_0.out
  have K1_0 : Hid (Blk w1 (w.heap.size) 34 #[.slice A0 S.data.length a0, .slice A1 S.ret.length a1, .int .i32 S.a, .slice A2 S.mem.length a2, .slice A3 S.cells.length a3, .slice A4 S.vars.length a4, .slice A5 S.out.length a5, .slice A6 S.inp.length a6, .int .i64 S.fault, .int .i64 S.fuel]) := Lib.hid (q0_0.below hb0 q0_0.lt)
  have q0_1 := K0_1.out
  have K1_1 : Hid (Blk w1 (w.heap.size + 1) 34 #[.slice none 0 0, .slice none 0 0, .int .i32 0, .slice none 0 0, .slice none 0 0, .slice none 0 0, .slice none 0 0, .slice none 0 0, .int .i64 0, .int .i64 0]) := Lib.hid (q0_1.below hb0 q0_1.lt)
  have B1 : Hid (Below w.heap.size w w1) := Lib.hid (B0.out.trans (hb0.mono B0.out.size))
  have H0 : Hid (∀ k, (Value.slice C0 S.data.length c0).ownBlock = some k → k < w1.heap.size) := Lib.hid (fun k hk => (World.ownsRow.lt ho0 k hk).2)
  have R1_0 := Lib.hid ho0
  obtain ⟨p1_0_0, p1_0_1, p1_0_2, p1_0_3, p1_0_4, p1_0_5, p1_0_6, p1_0_7, p1_0_8, p1_0_9⟩ := st_cells K1_0.out
  obtain ⟨p1_1_0, p1_1_1, p1_1_2, p1_1_3, p1_1_4, p1_1_5, p1_1_6, p1_1_7, p1_1_8, p1_1_9⟩ := st_cells K1_1.out
  have f1_0 := K1_0.out.frozen
  have f1_1 := K1_1.out.frozen
  have lz1_0 : w.heap.size < w1.heap.size := K1_0.out.lt
  have lz1_1 : w.heap.size + 1 < w1.heap.size := K1_1.out.lt
  clear q0_0 K0_0 q0_1 K0_1 B0 ho0 hb0 zz0
  have OE1 : Hid (((w1.setCell ⟨w.heap.size, 0, none⟩ (.slice C0 S.data.length c0)).alloc (.cells #[] 58)).ownsRow (w1.heap.size) 58 2 (.slice (some ⟨w1.heap.size, 0, none⟩) 0 0) 0 []) := Lib.hid (by have := own_emptyG (w1.setCell ⟨w.heap.size, 0, none⟩ (.slice C0 S.data.length c0)) 58 2; rw [show (w1.setCell ⟨w.heap.size, 0, none⟩ (.slice C0 S.data.length c0)).heap.size = w1.heap.size by simp [World.setCell]] at this; exact this)
  have SR1 : Hid (SrcAt ((w1.setCell ⟨w.heap.size, 0, none⟩ (.slice C0 S.data.length c0)).alloc (.cells #[] 58)) 2 (.slice A1 S.ret.length a1) S.ret.length (slv S.ret)) := Lib.hid (srcS (HR.out _ (Below.alloc (B1.out.setCell (p := ⟨w.heap.size, 0, none⟩) (show w.heap.size ≤ w.heap.size by omega) (.slice C0 S.data.length c0)) (B1.out.setCell (p := ⟨w.heap.size, 0, none⟩) (show w.heap.size ≤ w.heap.size by omega) (.slice C0 S.data.length c0)).size _)).r)
  go_wp2_with (at_builtin; refine wpList_append_src rfl _ _ 32 rfl (w1.heap.size) 58 iS (.agg #[.int .i64 0, .int .i32 0]) 2 16 Try.underlying32 hiS hzS0 hzS1 hzS2 rfl (by decide) _ 0 [] rfl OE1.out _ S.ret.length (slv S.ret) rfl SR1.out (oneS _) (by have := N1.out; unfold maxLen; omega) (by have := N1.out; omega) (by simp) ?_; intro v1 w2 ho1 ha1; refine unstop ?_)
  refine Stop.go ?_
  have hb1 : Below (w1.setCell ⟨w.heap.size, 0, none⟩ (.slice C0 S.data.length c0)).heap.size (w1.setCell ⟨w.heap.size, 0, none⟩ (.slice C0 S.data.length c0)) w2 := (below_alloc _ _).grown ha1.out.grown (by simp) (fun k hk => by have := own_lt OE1.out k hk; simp [World.setCell]; omega)
  have ho1 : w2.ownsRow (w1.heap.size) 58 2 v1 S.ret.length (slv S.ret) := by simpa using ho1
  clear ha1 OE1 SR1
  obtain ⟨C1, c1, rfl⟩ := own_formG ho1
  have xz1 : (w1.setCell ⟨w.heap.size, 0, none⟩ (.slice C0 S.data.length c0)).heap.size = w1.heap.size := by simp [World.setCell]
  have sz1 : w1.heap.size ≤ w2.heap.size := by have := hb1.size; rw [xz1] at this; exact this
  have q1_0 : Blk (w1.setCell ⟨w.heap.size, 0, none⟩ (.slice C0 S.data.length c0)) (w.heap.size) 34 #[.slice C0 S.data.length c0, .slice A1 S.ret.length a1, .int .i32 S.a, .slice A2 S.mem.length a2, .slice A3 S.cells.length a3, .slice A4 S.vars.length a4, .slice A5 S.out.length a5, .slice A6 S.inp.length a6, .int .i64 S.fault, .int .i64 S.fuel] := by have := (K1_0.out.put 0 (.slice C0 S.data.length c0)); simpa using this
  have K2_0 : Hid (Blk w2 (w.heap.size) 34 #[.slice C0 S.data.length c0, .slice A1 S.ret.length a1, .int .i32 S.a, .slice A2 S.mem.length a2, .slice A3 S.cells.length a3, .slice A4 S.vars.length a4, .slice A5 S.out.length a5, .slice A6 S.inp.length a6, .int .i64 S.fault, .int .i64 S.fuel]) := Lib.hid (q1_0.below hb1 q1_0.lt)
  have q1_1 := (K1_1.out.far (p := ⟨w.heap.size, 0, none⟩) (show w.heap.size + 1 ≠ w.heap.size by omega) (.slice C0 S.data.length c0))
  have K2_1 : Hid (Blk w2 (w.heap.size + 1) 34 #[.slice none 0 0, .slice none 0 0, .int .i32 0, .slice none 0 0, .slice none 0 0, .slice none 0 0, .slice none 0 0, .slice none 0 0, .int .i64 0, .int .i64 0]) := Lib.hid (q1_1.below hb1 q1_1.lt)
  have B2 : Hid (Below w.heap.size w w2) := Lib.hid ((B1.out.setCell (p := ⟨w.heap.size, 0, none⟩) (show w.heap.size ≤ w.heap.size by omega) (.slice C0 S.data.length c0)).trans (hb1.mono (by rw [xz1]; exact B1.out.size)))
  have R2_0 := Lib.hid (own_belowG (own_putG R1_0.out (p := ⟨w.heap.size, 0, none⟩) (show w.heap.size < (w.heap.size + 2) by omega) (.slice C0 S.data.length c0)) hb1 (Nat.le_refl _))
  have H1 : Hid (∀ k, (Value.slice C1 S.ret.length c1).ownBlock = some k → k < w2.heap.size) := Lib.hid (fun k hk => (World.ownsRow.lt ho1 k hk).2)
  have R2_1 := Lib.hid ho1
  obtain ⟨p2_0_0, p2_0_1, p2_0_2, p2_0_3, p2_0_4, p2_0_5, p2_0_6, p2_0_7, p2_0_8, p2_0_9⟩ := st_cells K2_0.out
  obtain ⟨p2_1_0, p2_1_1, p2_1_2, p2_1_3, p2_1_4, p2_1_5, p2_1_6, p2_1_7, p2_1_8, p2_1_9⟩ := st_cells K2_1.out
  have f2_0 := K2_0.out.frozen
  have f2_1 := K2_1.out.frozen
  have lz2_0 : w.heap.size < w2.heap.size := K2_0.out.lt
  have lz2_1 : w.heap.size + 1 < w2.heap.size := K2_1.out.lt
  clear q1_0 K1_0 q1_1 K1_1 B1 R1_0 ho1 hb1 xz1 p1_0_0 p1_0_1 p1_0_2 p1_0_3 p1_0_4 p1_0_5 p1_0_6 p1_0_7 p1_0_8 p1_0_9 p1_1_0 p1_1_1 p1_1_2 p1_1_3 p1_1_4 p1_1_5 p1_1_6 p1_1_7 p1_1_8 p1_1_9 f1_0 f1_1 lz1_0 lz1_1
  have OE2 : Hid (((w2.setCell ⟨w.heap.size, 1, none⟩ (.slice C1 S.ret.length c1)).alloc (.cells #[] 21)).ownsRow (w2.heap.size) 21 1 (.slice (some ⟨w2.heap.size, 0, none⟩) 0 0) 0 []) := Lib.hid (by have := own_emptyG (w2.setCell ⟨w.heap.size, 1, none⟩ (.slice C1 S.ret.length c1)) 21 1; rw [show (w2.setCell ⟨w.heap.size, 1, none⟩ (.slice C1 S.ret.length c1)).heap.size = w2.heap.size by simp [World.setCell]] at this; exact this)
  have SR2 : Hid (SrcAt ((w2.setCell ⟨w.heap.size, 1, none⟩ (.slice C1 S.ret.length c1)).alloc (.cells #[] 21)) 1 (.slice A2 S.mem.length a2) S.mem.length (S.mem.map iv)) := Lib.hid (srcI (HR.out _ (Below.alloc (B2.out.setCell (p := ⟨w.heap.size, 1, none⟩) (show w.heap.size ≤ w.heap.size by omega) (.slice C1 S.ret.length c1)) (B2.out.setCell (p := ⟨w.heap.size, 1, none⟩) (show w.heap.size ≤ w.heap.size by omega) (.slice C1 S.ret.length c1)).size _)).m)
  go_wp2_with (at_builtin; refine wpList_append_src rfl _ _ 23 rfl (w2.heap.size) 21 iI (.int .i32 0) 1 4 Try.underlying23 hiI hzI0 hzI1 hzI2 rfl (by decide) _ 0 [] rfl OE2.out _ S.mem.length (S.mem.map iv) rfl SR2.out (oneI _) (by have := N2.out; unfold maxLen; omega) (by have := N2.out; omega) (by simp) ?_; intro v2 w3 ho2 ha2; refine unstop ?_)
  refine Stop.go ?_
  have hb2 : Below (w2.setCell ⟨w.heap.size, 1, none⟩ (.slice C1 S.ret.length c1)).heap.size (w2.setCell ⟨w.heap.size, 1, none⟩ (.slice C1 S.ret.length c1)) w3 := (below_alloc _ _).grown ha2.out.grown (by simp) (fun k hk => by have := own_lt OE2.out k hk; simp [World.setCell]; omega)
  have ho2 : w3.ownsRow (w2.heap.size) 21 1 v2 S.mem.length (S.mem.map iv) := by simpa using ho2
  clear ha2 OE2 SR2
  obtain ⟨C2, c2, rfl⟩ := own_formG ho2
  have xz2 : (w2.setCell ⟨w.heap.size, 1, none⟩ (.slice C1 S.ret.length c1)).heap.size = w2.heap.size := by simp [World.setCell]
  have sz2 : w2.heap.size ≤ w3.heap.size := by have := hb2.size; rw [xz2] at this; exact this
  have q2_0 : Blk (w2.setCell ⟨w.heap.size, 1, none⟩ (.slice C1 S.ret.length c1)) (w.heap.size) 34 #[.slice C0 S.data.length c0, .slice C1 S.ret.length c1, .int .i32 S.a, .slice A2 S.mem.length a2, .slice A3 S.cells.length a3, .slice A4 S.vars.length a4, .slice A5 S.out.length a5, .slice A6 S.inp.length a6, .int .i64 S.fault, .int .i64 S.fuel] := by have := (K2_0.out.put 1 (.slice C1 S.ret.length c1)); simpa using this
  have K3_0 : Hid (Blk w3 (w.heap.size) 34 #[.slice C0 S.data.length c0, .slice C1 S.ret.length c1, .int .i32 S.a, .slice A2 S.mem.length a2, .slice A3 S.cells.length a3, .slice A4 S.vars.length a4, .slice A5 S.out.length a5, .slice A6 S.inp.length a6, .int .i64 S.fault, .int .i64 S.fuel]) := Lib.hid (q2_0.below hb2 q2_0.lt)
  have q2_1 := (K2_1.out.far (p := ⟨w.heap.size, 1, none⟩) (show w.heap.size + 1 ≠ w.heap.size by omega) (.slice C1 S.ret.length c1))
  have K3_1 : Hid (Blk w3 (w.heap.size + 1) 34 #[.slice none 0 0, .slice none 0 0, .int .i32 0, .slice none 0 0, .slice none 0 0, .slice none 0 0, .slice none 0 0, .slice none 0 0, .int .i64 0, .int .i64 0]) := Lib.hid (q2_1.below hb2 q2_1.lt)
  have B3 : Hid (Below w.heap.size w w3) := Lib.hid ((B2.out.setCell (p := ⟨w.heap.size, 1, none⟩) (show w.heap.size ≤ w.heap.size by omega) (.slice C1 S.ret.length c1)).trans (hb2.mono (by rw [xz2]; exact B2.out.size)))
  have R3_0 := Lib.hid (own_belowG (own_putG R2_0.out (p := ⟨w.heap.size, 1, none⟩) (show w.heap.size < (w.heap.size + 2) by omega) (.slice C1 S.ret.length c1)) hb2 (Nat.le_refl _))
  have R3_1 := Lib.hid (own_belowG (own_putG R2_1.out (p := ⟨w.heap.size, 1, none⟩) (show w.heap.size < w1.heap.size by omega) (.slice C1 S.ret.length c1)) hb2 (Nat.le_refl _))
  have H2 : Hid (∀ k, (Value.slice C2 S.mem.length c2).ownBlock = some k → k < w3.heap.size) := Lib.hid (fun k hk => (World.ownsRow.lt ho2 k hk).2)
  have R3_2 := Lib.hid ho2
  obtain ⟨p3_0_0, p3_0_1, p3_0_2, p3_0_3, p3_0_4, p3_0_5, p3_0_6, p3_0_7, p3_0_8, p3_0_9⟩ := st_cells K3_0.out
  obtain ⟨p3_1_0, p3_1_1, p3_1_2, p3_1_3, p3_1_4, p3_1_5, p3_1_6, p3_1_7, p3_1_8, p3_1_9⟩ := st_cells K3_1.out
  have f3_0 := K3_0.out.frozen
  have f3_1 := K3_1.out.frozen
  have lz3_0 : w.heap.size < w3.heap.size := K3_0.out.lt
  have lz3_1 : w.heap.size + 1 < w3.heap.size := K3_1.out.lt
  clear q2_0 K2_0 q2_1 K2_1 B2 R2_0 R2_1 ho2 hb2 xz2 p2_0_0 p2_0_1 p2_0_2 p2_0_3 p2_0_4 p2_0_5 p2_0_6 p2_0_7 p2_0_8 p2_0_9 p2_1_0 p2_1_1 p2_1_2 p2_1_3 p2_1_4 p2_1_5 p2_1_6 p2_1_7 p2_1_8 p2_1_9 f2_0 f2_1 lz2_0 lz2_1
  have OE3 : Hid (((w3.setCell ⟨w.heap.size, 3, none⟩ (.slice C2 S.mem.length c2)).alloc (.cells #[] 95)).ownsRow (w3.heap.size) 95 1 (.slice (some ⟨w3.heap.size, 0, none⟩) 0 0) 0 []) := Lib.hid (by have := own_emptyG (w3.setCell ⟨w.heap.size, 3, none⟩ (.slice C2 S.mem.length c2)) 95 1; rw [show (w3.setCell ⟨w.heap.size, 3, none⟩ (.slice C2 S.mem.length c2)).heap.size = w3.heap.size by simp [World.setCell]] at this; exact this)
  have SR3 : Hid (SrcAt ((w3.setCell ⟨w.heap.size, 3, none⟩ (.slice C2 S.mem.length c2)).alloc (.cells #[] 95)) 1 (.slice A3 S.cells.length a3) S.cells.length (S.cells.map u32v)) := Lib.hid (srcN (HR.out _ (Below.alloc (B3.out.setCell (p := ⟨w.heap.size, 3, none⟩) (show w.heap.size ≤ w.heap.size by omega) (.slice C2 S.mem.length c2)) (B3.out.setCell (p := ⟨w.heap.size, 3, none⟩) (show w.heap.size ≤ w.heap.size by omega) (.slice C2 S.mem.length c2)).size _)).c)
  go_wp2_with (at_builtin; refine wpList_append_src rfl _ _ 25 rfl (w3.heap.size) 95 iN (.int .u32 0) 1 4 Try.underlying25 hiN hzN0 hzN1 hzN2 rfl (by decide) _ 0 [] rfl OE3.out _ S.cells.length (S.cells.map u32v) rfl SR3.out (oneN _) (by have := N3.out; unfold maxLen; omega) (by have := N3.out; omega) (by simp) ?_; intro v3 w4 ho3 ha3; refine unstop ?_)
  refine Stop.go ?_
  have hb3 : Below (w3.setCell ⟨w.heap.size, 3, none⟩ (.slice C2 S.mem.length c2)).heap.size (w3.setCell ⟨w.heap.size, 3, none⟩ (.slice C2 S.mem.length c2)) w4 := (below_alloc _ _).grown ha3.out.grown (by simp) (fun k hk => by have := own_lt OE3.out k hk; simp [World.setCell]; omega)
  have ho3 : w4.ownsRow (w3.heap.size) 95 1 v3 S.cells.length (S.cells.map u32v) := by simpa using ho3
  clear ha3 OE3 SR3
  obtain ⟨C3, c3, rfl⟩ := own_formG ho3
  have xz3 : (w3.setCell ⟨w.heap.size, 3, none⟩ (.slice C2 S.mem.length c2)).heap.size = w3.heap.size := by simp [World.setCell]
  have sz3 : w3.heap.size ≤ w4.heap.size := by have := hb3.size; rw [xz3] at this; exact this
  have q3_0 : Blk (w3.setCell ⟨w.heap.size, 3, none⟩ (.slice C2 S.mem.length c2)) (w.heap.size) 34 #[.slice C0 S.data.length c0, .slice C1 S.ret.length c1, .int .i32 S.a, .slice C2 S.mem.length c2, .slice A3 S.cells.length a3, .slice A4 S.vars.length a4, .slice A5 S.out.length a5, .slice A6 S.inp.length a6, .int .i64 S.fault, .int .i64 S.fuel] := by have := (K3_0.out.put 3 (.slice C2 S.mem.length c2)); simpa using this
  have K4_0 : Hid (Blk w4 (w.heap.size) 34 #[.slice C0 S.data.length c0, .slice C1 S.ret.length c1, .int .i32 S.a, .slice C2 S.mem.length c2, .slice A3 S.cells.length a3, .slice A4 S.vars.length a4, .slice A5 S.out.length a5, .slice A6 S.inp.length a6, .int .i64 S.fault, .int .i64 S.fuel]) := Lib.hid (q3_0.below hb3 q3_0.lt)
  have q3_1 := (K3_1.out.far (p := ⟨w.heap.size, 3, none⟩) (show w.heap.size + 1 ≠ w.heap.size by omega) (.slice C2 S.mem.length c2))
  have K4_1 : Hid (Blk w4 (w.heap.size + 1) 34 #[.slice none 0 0, .slice none 0 0, .int .i32 0, .slice none 0 0, .slice none 0 0, .slice none 0 0, .slice none 0 0, .slice none 0 0, .int .i64 0, .int .i64 0]) := Lib.hid (q3_1.below hb3 q3_1.lt)
  have B4 : Hid (Below w.heap.size w w4) := Lib.hid ((B3.out.setCell (p := ⟨w.heap.size, 3, none⟩) (show w.heap.size ≤ w.heap.size by omega) (.slice C2 S.mem.length c2)).trans (hb3.mono (by rw [xz3]; exact B3.out.size)))
  have R4_0 := Lib.hid (own_belowG (own_putG R3_0.out (p := ⟨w.heap.size, 3, none⟩) (show w.heap.size < (w.heap.size + 2) by omega) (.slice C2 S.mem.length c2)) hb3 (Nat.le_refl _))
  have R4_1 := Lib.hid (own_belowG (own_putG R3_1.out (p := ⟨w.heap.size, 3, none⟩) (show w.heap.size < w1.heap.size by omega) (.slice C2 S.mem.length c2)) hb3 (Nat.le_refl _))
  have R4_2 := Lib.hid (own_belowG (own_putG R3_2.out (p := ⟨w.heap.size, 3, none⟩) (show w.heap.size < w2.heap.size by omega) (.slice C2 S.mem.length c2)) hb3 (Nat.le_refl _))
  have H3 : Hid (∀ k, (Value.slice C3 S.cells.length c3).ownBlock = some k → k < w4.heap.size) := Lib.hid (fun k hk => (World.ownsRow.lt ho3 k hk).2)
  have R4_3 := Lib.hid ho3
  obtain ⟨p4_0_0, p4_0_1, p4_0_2, p4_0_3, p4_0_4, p4_0_5, p4_0_6, p4_0_7, p4_0_8, p4_0_9⟩ := st_cells K4_0.out
  obtain ⟨p4_1_0, p4_1_1, p4_1_2, p4_1_3, p4_1_4, p4_1_5, p4_1_6, p4_1_7, p4_1_8, p4_1_9⟩ := st_cells K4_1.out
  have f4_0 := K4_0.out.frozen
  have f4_1 := K4_1.out.frozen
  have lz4_0 : w.heap.size < w4.heap.size := K4_0.out.lt
  have lz4_1 : w.heap.size + 1 < w4.heap.size := K4_1.out.lt
  clear q3_0 K3_0 q3_1 K3_1 B3 R3_0 R3_1 R3_2 ho3 hb3 xz3 p3_0_0 p3_0_1 p3_0_2 p3_0_3 p3_0_4 p3_0_5 p3_0_6 p3_0_7 p3_0_8 p3_0_9 p3_1_0 p3_1_1 p3_1_2 p3_1_3 p3_1_4 p3_1_5 p3_1_6 p3_1_7 p3_1_8 p3_1_9 f3_0 f3_1 lz3_0 lz3_1
  have OE4 : Hid (((w4.setCell ⟨w.heap.size, 4, none⟩ (.slice C3 S.cells.length c3)).alloc (.cells #[] 3)).ownsRow (w4.heap.size) 3 1 (.slice (some ⟨w4.heap.size, 0, none⟩) 0 0) 0 []) := Lib.hid (by have := own_emptyG (w4.setCell ⟨w.heap.size, 4, none⟩ (.slice C3 S.cells.length c3)) 3 1; rw [show (w4.setCell ⟨w.heap.size, 4, none⟩ (.slice C3 S.cells.length c3)).heap.size = w4.heap.size by simp [World.setCell]] at this; exact this)
  have SR4 : Hid (SrcAt ((w4.setCell ⟨w.heap.size, 4, none⟩ (.slice C3 S.cells.length c3)).alloc (.cells #[] 3)) 1 (.slice A4 S.vars.length a4) S.vars.length (S.vars.map lv)) := Lib.hid (srcL (HR.out _ (Below.alloc (B4.out.setCell (p := ⟨w.heap.size, 4, none⟩) (show w.heap.size ≤ w.heap.size by omega) (.slice C3 S.cells.length c3)) (B4.out.setCell (p := ⟨w.heap.size, 4, none⟩) (show w.heap.size ≤ w.heap.size by omega) (.slice C3 S.cells.length c3)).size _)).v)
  go_wp2_with (at_builtin; refine wpList_append_src rfl _ _ 26 rfl (w4.heap.size) 3 iL (.int .i64 0) 1 8 Try.underlying26 hiL hzL0 hzL1 hzL2 rfl (by decide) _ 0 [] rfl OE4.out _ S.vars.length (S.vars.map lv) rfl SR4.out (oneL _) (by have := N4.out; unfold maxLen; omega) (by have := N4.out; omega) (by simp) ?_; intro v4 w5 ho4 ha4; refine unstop ?_)
  refine Stop.go ?_
  have hb4 : Below (w4.setCell ⟨w.heap.size, 4, none⟩ (.slice C3 S.cells.length c3)).heap.size (w4.setCell ⟨w.heap.size, 4, none⟩ (.slice C3 S.cells.length c3)) w5 := (below_alloc _ _).grown ha4.out.grown (by simp) (fun k hk => by have := own_lt OE4.out k hk; simp [World.setCell]; omega)
  have ho4 : w5.ownsRow (w4.heap.size) 3 1 v4 S.vars.length (S.vars.map lv) := by simpa using ho4
  clear ha4 OE4 SR4
  obtain ⟨C4, c4, rfl⟩ := own_formG ho4
  have xz4 : (w4.setCell ⟨w.heap.size, 4, none⟩ (.slice C3 S.cells.length c3)).heap.size = w4.heap.size := by simp [World.setCell]
  have sz4 : w4.heap.size ≤ w5.heap.size := by have := hb4.size; rw [xz4] at this; exact this
  have q4_0 : Blk (w4.setCell ⟨w.heap.size, 4, none⟩ (.slice C3 S.cells.length c3)) (w.heap.size) 34 #[.slice C0 S.data.length c0, .slice C1 S.ret.length c1, .int .i32 S.a, .slice C2 S.mem.length c2, .slice C3 S.cells.length c3, .slice A4 S.vars.length a4, .slice A5 S.out.length a5, .slice A6 S.inp.length a6, .int .i64 S.fault, .int .i64 S.fuel] := by have := (K4_0.out.put 4 (.slice C3 S.cells.length c3)); simpa using this
  have K5_0 : Hid (Blk w5 (w.heap.size) 34 #[.slice C0 S.data.length c0, .slice C1 S.ret.length c1, .int .i32 S.a, .slice C2 S.mem.length c2, .slice C3 S.cells.length c3, .slice A4 S.vars.length a4, .slice A5 S.out.length a5, .slice A6 S.inp.length a6, .int .i64 S.fault, .int .i64 S.fuel]) := Lib.hid (q4_0.below hb4 q4_0.lt)
  have q4_1 := (K4_1.out.far (p := ⟨w.heap.size, 4, none⟩) (show w.heap.size + 1 ≠ w.heap.size by omega) (.slice C3 S.cells.length c3))
  have K5_1 : Hid (Blk w5 (w.heap.size + 1) 34 #[.slice none 0 0, .slice none 0 0, .int .i32 0, .slice none 0 0, .slice none 0 0, .slice none 0 0, .slice none 0 0, .slice none 0 0, .int .i64 0, .int .i64 0]) := Lib.hid (q4_1.below hb4 q4_1.lt)
  have B5 : Hid (Below w.heap.size w w5) := Lib.hid ((B4.out.setCell (p := ⟨w.heap.size, 4, none⟩) (show w.heap.size ≤ w.heap.size by omega) (.slice C3 S.cells.length c3)).trans (hb4.mono (by rw [xz4]; exact B4.out.size)))
  have R5_0 := Lib.hid (own_belowG (own_putG R4_0.out (p := ⟨w.heap.size, 4, none⟩) (show w.heap.size < (w.heap.size + 2) by omega) (.slice C3 S.cells.length c3)) hb4 (Nat.le_refl _))
  have R5_1 := Lib.hid (own_belowG (own_putG R4_1.out (p := ⟨w.heap.size, 4, none⟩) (show w.heap.size < w1.heap.size by omega) (.slice C3 S.cells.length c3)) hb4 (Nat.le_refl _))
  have R5_2 := Lib.hid (own_belowG (own_putG R4_2.out (p := ⟨w.heap.size, 4, none⟩) (show w.heap.size < w2.heap.size by omega) (.slice C3 S.cells.length c3)) hb4 (Nat.le_refl _))
  have R5_3 := Lib.hid (own_belowG (own_putG R4_3.out (p := ⟨w.heap.size, 4, none⟩) (show w.heap.size < w3.heap.size by omega) (.slice C3 S.cells.length c3)) hb4 (Nat.le_refl _))
  have H4 : Hid (∀ k, (Value.slice C4 S.vars.length c4).ownBlock = some k → k < w5.heap.size) := Lib.hid (fun k hk => (World.ownsRow.lt ho4 k hk).2)
  have R5_4 := Lib.hid ho4
  obtain ⟨p5_0_0, p5_0_1, p5_0_2, p5_0_3, p5_0_4, p5_0_5, p5_0_6, p5_0_7, p5_0_8, p5_0_9⟩ := st_cells K5_0.out
  obtain ⟨p5_1_0, p5_1_1, p5_1_2, p5_1_3, p5_1_4, p5_1_5, p5_1_6, p5_1_7, p5_1_8, p5_1_9⟩ := st_cells K5_1.out
  have f5_0 := K5_0.out.frozen
  have f5_1 := K5_1.out.frozen
  have lz5_0 : w.heap.size < w5.heap.size := K5_0.out.lt
  have lz5_1 : w.heap.size + 1 < w5.heap.size := K5_1.out.lt
  clear q4_0 K4_0 q4_1 K4_1 B4 R4_0 R4_1 R4_2 R4_3 ho4 hb4 xz4 p4_0_0 p4_0_1 p4_0_2 p4_0_3 p4_0_4 p4_0_5 p4_0_6 p4_0_7 p4_0_8 p4_0_9 p4_1_0 p4_1_1 p4_1_2 p4_1_3 p4_1_4 p4_1_5 p4_1_6 p4_1_7 p4_1_8 p4_1_9 f4_0 f4_1 lz4_0 lz4_1
  have OE5 : Hid (((w5.setCell ⟨w.heap.size, 5, none⟩ (.slice C4 S.vars.length c4)).alloc (.cells #[] 5)).ownsRow (w5.heap.size) 5 1 (.slice (some ⟨w5.heap.size, 0, none⟩) 0 0) 0 []) := Lib.hid (by have := own_emptyG (w5.setCell ⟨w.heap.size, 5, none⟩ (.slice C4 S.vars.length c4)) 5 1; rw [show (w5.setCell ⟨w.heap.size, 5, none⟩ (.slice C4 S.vars.length c4)).heap.size = w5.heap.size by simp [World.setCell]] at this; exact this)
  have SR5 : Hid (SrcAt ((w5.setCell ⟨w.heap.size, 5, none⟩ (.slice C4 S.vars.length c4)).alloc (.cells #[] 5)) 1 (.slice A5 S.out.length a5) S.out.length (S.out.map b8v)) := Lib.hid (srcB (HR.out _ (Below.alloc (B5.out.setCell (p := ⟨w.heap.size, 5, none⟩) (show w.heap.size ≤ w.heap.size by omega) (.slice C4 S.vars.length c4)) (B5.out.setCell (p := ⟨w.heap.size, 5, none⟩) (show w.heap.size ≤ w.heap.size by omega) (.slice C4 S.vars.length c4)).size _)).o)
  go_wp2_with (at_builtin; refine wpList_append_src rfl _ _ 27 rfl (w5.heap.size) 5 iB (.int .u8 0) 1 1 Try.underlying27 hiB hzB0 hzB1 hzB2 rfl (by decide) _ 0 [] rfl OE5.out _ S.out.length (S.out.map b8v) rfl SR5.out (oneB _) (by have := N5.out; unfold maxLen; omega) (by have := N5.out; omega) (by simp) ?_; intro v5 w6 ho5 ha5; refine unstop ?_)
  refine Stop.go ?_
  have hb5 : Below (w5.setCell ⟨w.heap.size, 5, none⟩ (.slice C4 S.vars.length c4)).heap.size (w5.setCell ⟨w.heap.size, 5, none⟩ (.slice C4 S.vars.length c4)) w6 := (below_alloc _ _).grown ha5.out.grown (by simp) (fun k hk => by have := own_lt OE5.out k hk; simp [World.setCell]; omega)
  have ho5 : w6.ownsRow (w5.heap.size) 5 1 v5 S.out.length (S.out.map b8v) := by simpa using ho5
  clear ha5 OE5 SR5
  obtain ⟨C5, c5, rfl⟩ := own_formG ho5
  have xz5 : (w5.setCell ⟨w.heap.size, 5, none⟩ (.slice C4 S.vars.length c4)).heap.size = w5.heap.size := by simp [World.setCell]
  have sz5 : w5.heap.size ≤ w6.heap.size := by have := hb5.size; rw [xz5] at this; exact this
  have q5_0 : Blk (w5.setCell ⟨w.heap.size, 5, none⟩ (.slice C4 S.vars.length c4)) (w.heap.size) 34 #[.slice C0 S.data.length c0, .slice C1 S.ret.length c1, .int .i32 S.a, .slice C2 S.mem.length c2, .slice C3 S.cells.length c3, .slice C4 S.vars.length c4, .slice A5 S.out.length a5, .slice A6 S.inp.length a6, .int .i64 S.fault, .int .i64 S.fuel] := by have := (K5_0.out.put 5 (.slice C4 S.vars.length c4)); simpa using this
  have K6_0 : Hid (Blk w6 (w.heap.size) 34 #[.slice C0 S.data.length c0, .slice C1 S.ret.length c1, .int .i32 S.a, .slice C2 S.mem.length c2, .slice C3 S.cells.length c3, .slice C4 S.vars.length c4, .slice A5 S.out.length a5, .slice A6 S.inp.length a6, .int .i64 S.fault, .int .i64 S.fuel]) := Lib.hid (q5_0.below hb5 q5_0.lt)
  have q5_1 := (K5_1.out.far (p := ⟨w.heap.size, 5, none⟩) (show w.heap.size + 1 ≠ w.heap.size by omega) (.slice C4 S.vars.length c4))
  have K6_1 : Hid (Blk w6 (w.heap.size + 1) 34 #[.slice none 0 0, .slice none 0 0, .int .i32 0, .slice none 0 0, .slice none 0 0, .slice none 0 0, .slice none 0 0, .slice none 0 0, .int .i64 0, .int .i64 0]) := Lib.hid (q5_1.below hb5 q5_1.lt)
  have B6 : Hid (Below w.heap.size w w6) := Lib.hid ((B5.out.setCell (p := ⟨w.heap.size, 5, none⟩) (show w.heap.size ≤ w.heap.size by omega) (.slice C4 S.vars.length c4)).trans (hb5.mono (by rw [xz5]; exact B5.out.size)))
  have R6_0 := Lib.hid (own_belowG (own_putG R5_0.out (p := ⟨w.heap.size, 5, none⟩) (show w.heap.size < (w.heap.size + 2) by omega) (.slice C4 S.vars.length c4)) hb5 (Nat.le_refl _))
  have R6_1 := Lib.hid (own_belowG (own_putG R5_1.out (p := ⟨w.heap.size, 5, none⟩) (show w.heap.size < w1.heap.size by omega) (.slice C4 S.vars.length c4)) hb5 (Nat.le_refl _))
  have R6_2 := Lib.hid (own_belowG (own_putG R5_2.out (p := ⟨w.heap.size, 5, none⟩) (show w.heap.size < w2.heap.size by omega) (.slice C4 S.vars.length c4)) hb5 (Nat.le_refl _))
  have R6_3 := Lib.hid (own_belowG (own_putG R5_3.out (p := ⟨w.heap.size, 5, none⟩) (show w.heap.size < w3.heap.size by omega) (.slice C4 S.vars.length c4)) hb5 (Nat.le_refl _))
  have R6_4 := Lib.hid (own_belowG (own_putG R5_4.out (p := ⟨w.heap.size, 5, none⟩) (show w.heap.size < w4.heap.size by omega) (.slice C4 S.vars.length c4)) hb5 (Nat.le_refl _))
  have H5 : Hid (∀ k, (Value.slice C5 S.out.length c5).ownBlock = some k → k < w6.heap.size) := Lib.hid (fun k hk => (World.ownsRow.lt ho5 k hk).2)
  have R6_5 := Lib.hid ho5
  obtain ⟨p6_0_0, p6_0_1, p6_0_2, p6_0_3, p6_0_4, p6_0_5, p6_0_6, p6_0_7, p6_0_8, p6_0_9⟩ := st_cells K6_0.out
  obtain ⟨p6_1_0, p6_1_1, p6_1_2, p6_1_3, p6_1_4, p6_1_5, p6_1_6, p6_1_7, p6_1_8, p6_1_9⟩ := st_cells K6_1.out
  have f6_0 := K6_0.out.frozen
  have f6_1 := K6_1.out.frozen
  have lz6_0 : w.heap.size < w6.heap.size := K6_0.out.lt
  have lz6_1 : w.heap.size + 1 < w6.heap.size := K6_1.out.lt
  clear q5_0 K5_0 q5_1 K5_1 B5 R5_0 R5_1 R5_2 R5_3 R5_4 ho5 hb5 xz5 p5_0_0 p5_0_1 p5_0_2 p5_0_3 p5_0_4 p5_0_5 p5_0_6 p5_0_7 p5_0_8 p5_0_9 p5_1_0 p5_1_1 p5_1_2 p5_1_3 p5_1_4 p5_1_5 p5_1_6 p5_1_7 p5_1_8 p5_1_9 f5_0 f5_1 lz5_0 lz5_1
  have OE6 : Hid (((w6.setCell ⟨w.heap.size, 6, none⟩ (.slice C5 S.out.length c5)).alloc (.cells #[] 5)).ownsRow (w6.heap.size) 5 1 (.slice (some ⟨w6.heap.size, 0, none⟩) 0 0) 0 []) := Lib.hid (by have := own_emptyG (w6.setCell ⟨w.heap.size, 6, none⟩ (.slice C5 S.out.length c5)) 5 1; rw [show (w6.setCell ⟨w.heap.size, 6, none⟩ (.slice C5 S.out.length c5)).heap.size = w6.heap.size by simp [World.setCell]] at this; exact this)
  have SR6 : Hid (SrcAt ((w6.setCell ⟨w.heap.size, 6, none⟩ (.slice C5 S.out.length c5)).alloc (.cells #[] 5)) 1 (.slice A6 S.inp.length a6) S.inp.length (S.inp.map b8v)) := Lib.hid (srcB (HR.out _ (Below.alloc (B6.out.setCell (p := ⟨w.heap.size, 6, none⟩) (show w.heap.size ≤ w.heap.size by omega) (.slice C5 S.out.length c5)) (B6.out.setCell (p := ⟨w.heap.size, 6, none⟩) (show w.heap.size ≤ w.heap.size by omega) (.slice C5 S.out.length c5)).size _)).i)
  go_wp2_with (at_builtin; refine wpList_append_src rfl _ _ 27 rfl (w6.heap.size) 5 iB (.int .u8 0) 1 1 Try.underlying27 hiB hzB0 hzB1 hzB2 rfl (by decide) _ 0 [] rfl OE6.out _ S.inp.length (S.inp.map b8v) rfl SR6.out (oneB _) (by have := N6.out; unfold maxLen; omega) (by have := N6.out; omega) (by simp) ?_; intro v6 w7 ho6 ha6; refine unstop ?_)
  refine Stop.go ?_
  have hb6 : Below (w6.setCell ⟨w.heap.size, 6, none⟩ (.slice C5 S.out.length c5)).heap.size (w6.setCell ⟨w.heap.size, 6, none⟩ (.slice C5 S.out.length c5)) w7 := (below_alloc _ _).grown ha6.out.grown (by simp) (fun k hk => by have := own_lt OE6.out k hk; simp [World.setCell]; omega)
  have ho6 : w7.ownsRow (w6.heap.size) 5 1 v6 S.inp.length (S.inp.map b8v) := by simpa using ho6
  clear ha6 OE6 SR6
  obtain ⟨C6, c6, rfl⟩ := own_formG ho6
  have xz6 : (w6.setCell ⟨w.heap.size, 6, none⟩ (.slice C5 S.out.length c5)).heap.size = w6.heap.size := by simp [World.setCell]
  have sz6 : w6.heap.size ≤ w7.heap.size := by have := hb6.size; rw [xz6] at this; exact this
  have q6_0 : Blk (w6.setCell ⟨w.heap.size, 6, none⟩ (.slice C5 S.out.length c5)) (w.heap.size) 34 #[.slice C0 S.data.length c0, .slice C1 S.ret.length c1, .int .i32 S.a, .slice C2 S.mem.length c2, .slice C3 S.cells.length c3, .slice C4 S.vars.length c4, .slice C5 S.out.length c5, .slice A6 S.inp.length a6, .int .i64 S.fault, .int .i64 S.fuel] := by have := (K6_0.out.put 6 (.slice C5 S.out.length c5)); simpa using this
  have K7_0 : Hid (Blk w7 (w.heap.size) 34 #[.slice C0 S.data.length c0, .slice C1 S.ret.length c1, .int .i32 S.a, .slice C2 S.mem.length c2, .slice C3 S.cells.length c3, .slice C4 S.vars.length c4, .slice C5 S.out.length c5, .slice A6 S.inp.length a6, .int .i64 S.fault, .int .i64 S.fuel]) := Lib.hid (q6_0.below hb6 q6_0.lt)
  have q6_1 := (K6_1.out.far (p := ⟨w.heap.size, 6, none⟩) (show w.heap.size + 1 ≠ w.heap.size by omega) (.slice C5 S.out.length c5))
  have K7_1 : Hid (Blk w7 (w.heap.size + 1) 34 #[.slice none 0 0, .slice none 0 0, .int .i32 0, .slice none 0 0, .slice none 0 0, .slice none 0 0, .slice none 0 0, .slice none 0 0, .int .i64 0, .int .i64 0]) := Lib.hid (q6_1.below hb6 q6_1.lt)
  have B7 : Hid (Below w.heap.size w w7) := Lib.hid ((B6.out.setCell (p := ⟨w.heap.size, 6, none⟩) (show w.heap.size ≤ w.heap.size by omega) (.slice C5 S.out.length c5)).trans (hb6.mono (by rw [xz6]; exact B6.out.size)))
  have R7_0 := Lib.hid (own_belowG (own_putG R6_0.out (p := ⟨w.heap.size, 6, none⟩) (show w.heap.size < (w.heap.size + 2) by omega) (.slice C5 S.out.length c5)) hb6 (Nat.le_refl _))
  have R7_1 := Lib.hid (own_belowG (own_putG R6_1.out (p := ⟨w.heap.size, 6, none⟩) (show w.heap.size < w1.heap.size by omega) (.slice C5 S.out.length c5)) hb6 (Nat.le_refl _))
  have R7_2 := Lib.hid (own_belowG (own_putG R6_2.out (p := ⟨w.heap.size, 6, none⟩) (show w.heap.size < w2.heap.size by omega) (.slice C5 S.out.length c5)) hb6 (Nat.le_refl _))
  have R7_3 := Lib.hid (own_belowG (own_putG R6_3.out (p := ⟨w.heap.size, 6, none⟩) (show w.heap.size < w3.heap.size by omega) (.slice C5 S.out.length c5)) hb6 (Nat.le_refl _))
  have R7_4 := Lib.hid (own_belowG (own_putG R6_4.out (p := ⟨w.heap.size, 6, none⟩) (show w.heap.size < w4.heap.size by omega) (.slice C5 S.out.length c5)) hb6 (Nat.le_refl _))
  have R7_5 := Lib.hid (own_belowG (own_putG R6_5.out (p := ⟨w.heap.size, 6, none⟩) (show w.heap.size < w5.heap.size by omega) (.slice C5 S.out.length c5)) hb6 (Nat.le_refl _))
  have H6 : Hid (∀ k, (Value.slice C6 S.inp.length c6).ownBlock = some k → k < w7.heap.size) := Lib.hid (fun k hk => (World.ownsRow.lt ho6 k hk).2)
  have R7_6 := Lib.hid ho6
  obtain ⟨p7_0_0, p7_0_1, p7_0_2, p7_0_3, p7_0_4, p7_0_5, p7_0_6, p7_0_7, p7_0_8, p7_0_9⟩ := st_cells K7_0.out
  obtain ⟨p7_1_0, p7_1_1, p7_1_2, p7_1_3, p7_1_4, p7_1_5, p7_1_6, p7_1_7, p7_1_8, p7_1_9⟩ := st_cells K7_1.out
  have f7_0 := K7_0.out.frozen
  have f7_1 := K7_1.out.frozen
  have lz7_0 : w.heap.size < w7.heap.size := K7_0.out.lt
  have lz7_1 : w.heap.size + 1 < w7.heap.size := K7_1.out.lt
  clear q6_0 K6_0 q6_1 K6_1 B6 R6_0 R6_1 R6_2 R6_3 R6_4 R6_5 ho6 hb6 xz6 p6_0_0 p6_0_1 p6_0_2 p6_0_3 p6_0_4 p6_0_5 p6_0_6 p6_0_7 p6_0_8 p6_0_9 p6_1_0 p6_1_1 p6_1_2 p6_1_3 p6_1_4 p6_1_5 p6_1_6 p6_1_7 p6_1_8 p6_1_9 f6_0 f6_1 lz6_0 lz6_1
  go_wp2_with fail
  have u0 : Blk (w7.setCell ⟨w.heap.size, 7, none⟩ (.slice C6 S.inp.length c6)) (w.heap.size) 34 #[.slice C0 S.data.length c0, .slice C1 S.ret.length c1, .int .i32 S.a, .slice C2 S.mem.length c2, .slice C3 S.cells.length c3, .slice C4 S.vars.length c4, .slice C5 S.out.length c5, .slice C6 S.inp.length c6, .int .i64 S.fault, .int .i64 S.fuel] := by have := K7_0.out.put 7 (.slice C6 S.inp.length c6); simpa using this
  have b1 : Blk (w7.setCell ⟨w.heap.size, 7, none⟩ (.slice C6 S.inp.length c6)) (w.heap.size + 1) 34 #[.slice none 0 0, .slice none 0 0, .int .i32 0, .slice none 0 0, .slice none 0 0, .slice none 0 0, .slice none 0 0, .slice none 0 0, .int .i64 0, .int .i64 0] := K7_1.out.far (p := ⟨w.heap.size, 7, none⟩) (show w.heap.size + 1 ≠ w.heap.size by omega) _
  have b2 : Below w.heap.size w (w7.setCell ⟨w.heap.size, 7, none⟩ (.slice C6 S.inp.length c6)) := B7.out.setCell (p := ⟨w.heap.size, 7, none⟩) (show w.heap.size ≤ w.heap.size by omega) _
  have t0 := own_putG R7_0.out (p := ⟨w.heap.size, 7, none⟩) (show w.heap.size < (w.heap.size + 2) by omega) (.slice C6 S.inp.length c6)
  have t1 := own_putG R7_1.out (p := ⟨w.heap.size, 7, none⟩) (show w.heap.size < w1.heap.size by omega) (.slice C6 S.inp.length c6)
  have t2 := own_putG R7_2.out (p := ⟨w.heap.size, 7, none⟩) (show w.heap.size < w2.heap.size by omega) (.slice C6 S.inp.length c6)
  have t3 := own_putG R7_3.out (p := ⟨w.heap.size, 7, none⟩) (show w.heap.size < w3.heap.size by omega) (.slice C6 S.inp.length c6)
  have t4 := own_putG R7_4.out (p := ⟨w.heap.size, 7, none⟩) (show w.heap.size < w4.heap.size by omega) (.slice C6 S.inp.length c6)
  have t5 := own_putG R7_5.out (p := ⟨w.heap.size, 7, none⟩) (show w.heap.size < w5.heap.size by omega) (.slice C6 S.inp.length c6)
  have t6 := own_putG R7_6.out (p := ⟨w.heap.size, 7, none⟩) (show w.heap.size < w6.heap.size by omega) (.slice C6 S.inp.length c6)
  clear u0 K7_0 K7_1 B7 R7_0 R7_1 R7_2 R7_3 R7_4 R7_5 R7_6
  show bodyPost _ _ _ _ _ (putSt (w7.setCell ⟨w.heap.size, 7, none⟩ (.slice C6 S.inp.length c6)) (w.heap.size + 1) (.slice C0 S.data.length c0) (.slice C1 S.ret.length c1) (.int .i32 S.a) (.slice C2 S.mem.length c2) (.slice C3 S.cells.length c3) (.slice C4 S.vars.length c4) (.slice C5 S.out.length c5) (.slice C6 S.inp.length c6) (.int .i64 S.fault) (.int .i64 S.fuel))
  have y1 := putSt_blk b1 (.slice C0 S.data.length c0) (.slice C1 S.ret.length c1) (.int .i32 S.a) (.slice C2 S.mem.length c2) (.slice C3 S.cells.length c3) (.slice C4 S.vars.length c4) (.slice C5 S.out.length c5) (.slice C6 S.inp.length c6) (.int .i64 S.fault) (.int .i64 S.fuel)
  have y2 := b2.grown (putSt_only (w7.setCell ⟨w.heap.size, 7, none⟩ (.slice C6 S.inp.length c6)) (w.heap.size + 1) (.slice C0 S.data.length c0) (.slice C1 S.ret.length c1) (.int .i32 S.a) (.slice C2 S.mem.length c2) (.slice C3 S.cells.length c3) (.slice C4 S.vars.length c4) (.slice C5 S.out.length c5) (.slice C6 S.inp.length c6) (.int .i64 S.fault) (.int .i64 S.fuel)) b2.size (fun k hk => by injection hk with hk; omega)
  have g0 := own_setSt t0 (g := w.heap.size + 1) (by omega) (.slice C0 S.data.length c0) (.slice C1 S.ret.length c1) (.int .i32 S.a) (.slice C2 S.mem.length c2) (.slice C3 S.cells.length c3) (.slice C4 S.vars.length c4) (.slice C5 S.out.length c5) (.slice C6 S.inp.length c6) (.int .i64 S.fault) (.int .i64 S.fuel)
  have g1 := own_setSt t1 (g := w.heap.size + 1) (by omega) (.slice C0 S.data.length c0) (.slice C1 S.ret.length c1) (.int .i32 S.a) (.slice C2 S.mem.length c2) (.slice C3 S.cells.length c3) (.slice C4 S.vars.length c4) (.slice C5 S.out.length c5) (.slice C6 S.inp.length c6) (.int .i64 S.fault) (.int .i64 S.fuel)
  have g2 := own_setSt t2 (g := w.heap.size + 1) (by omega) (.slice C0 S.data.length c0) (.slice C1 S.ret.length c1) (.int .i32 S.a) (.slice C2 S.mem.length c2) (.slice C3 S.cells.length c3) (.slice C4 S.vars.length c4) (.slice C5 S.out.length c5) (.slice C6 S.inp.length c6) (.int .i64 S.fault) (.int .i64 S.fuel)
  have g3 := own_setSt t3 (g := w.heap.size + 1) (by omega) (.slice C0 S.data.length c0) (.slice C1 S.ret.length c1) (.int .i32 S.a) (.slice C2 S.mem.length c2) (.slice C3 S.cells.length c3) (.slice C4 S.vars.length c4) (.slice C5 S.out.length c5) (.slice C6 S.inp.length c6) (.int .i64 S.fault) (.int .i64 S.fuel)
  have g4 := own_setSt t4 (g := w.heap.size + 1) (by omega) (.slice C0 S.data.length c0) (.slice C1 S.ret.length c1) (.int .i32 S.a) (.slice C2 S.mem.length c2) (.slice C3 S.cells.length c3) (.slice C4 S.vars.length c4) (.slice C5 S.out.length c5) (.slice C6 S.inp.length c6) (.int .i64 S.fault) (.int .i64 S.fuel)
  have g5 := own_setSt t5 (g := w.heap.size + 1) (by omega) (.slice C0 S.data.length c0) (.slice C1 S.ret.length c1) (.int .i32 S.a) (.slice C2 S.mem.length c2) (.slice C3 S.cells.length c3) (.slice C4 S.vars.length c4) (.slice C5 S.out.length c5) (.slice C6 S.inp.length c6) (.int .i64 S.fault) (.int .i64 S.fuel)
  have g6 := own_setSt t6 (g := w.heap.size + 1) (by omega) (.slice C0 S.data.length c0) (.slice C1 S.ret.length c1) (.int .i32 S.a) (.slice C2 S.mem.length c2) (.slice C3 S.cells.length c3) (.slice C4 S.vars.length c4) (.slice C5 S.out.length c5) (.slice C6 S.inp.length c6) (.int .i64 S.fault) (.int .i64 S.fuel)
  clear b1 b2 t0 t1 t2 t3 t4 t5 t6
  generalize putSt (w7.setCell ⟨w.heap.size, 7, none⟩ (.slice C6 S.inp.length c6)) (w.heap.size + 1) (.slice C0 S.data.length c0) (.slice C1 S.ret.length c1) (.int .i32 S.a) (.slice C2 S.mem.length c2) (.slice C3 S.cells.length c3) (.slice C4 S.vars.length c4) (.slice C5 S.out.length c5) (.slice C6 S.inp.length c6) (.int .i64 S.fault) (.int .i64 S.fuel) = W at y1 y2 g0 g1 g2 g3 g4 g5 g6 ⊢
  obtain ⟨z0, z1, z2, z3, z4, z5, z6, z7, z8, z9⟩ := st_cells y1
  refine bodyPost_ret (v := .agg #[.slice C0 S.data.length c0, .slice C1 S.ret.length c1, .int .i32 S.a, .slice C2 S.mem.length c2, .slice C3 S.cells.length c3, .slice C4 S.vars.length c4, .slice C5 S.out.length c5, .slice C6 S.inp.length c6, .int .i64 S.fault, .int .i64 S.fuel]) (by simp [results, Try.results52, z0, z1, z2, z3, z4, z5, z6, z7, z8, z9, go_sem]) rfl ⟨_, _, _, _, _, _, _, rfl, ?_, y2⟩
  exact OwnSt.of7 (g0.mono (by omega)) (g1.mono (by omega)) (g2.mono (by omega)) (g3.mono (by omega)) (g4.mono (by omega)) (g5.mono (by omega)) (g6.mono (by omega)) (apart_lt H0.out g2 (by omega)) (apart_lt H5.out g6 (by omega))
end Go.Proofs.Ytmnfdbgiemappaa

namespace Go.Proofs.Ytmnfdbgiemappaa
open Go.RowKit Go

set_option maxRecDepth 100000 in
set_option maxHeartbeats 2500000 in
theorem spec_fault (d r m c v o i : Value) (S : S8) (f : Int) (hs : totSt S ≤ 4000000) (w : World) (hr : RdSt w d r m c v o i S) :
    Calls Try.prog 51 #[.agg #[d, r, .int .i32 S.a, m, c, v, o, i, .int .i64 S.fault, .int .i64 S.fuel], .int .i64 f] w (NewSt w { S with fault := f }) := by
  have hform := hr.form
  obtain ⟨⟨A0, a0, rfl⟩, ⟨A1, a1, rfl⟩, ⟨A2, a2, rfl⟩, ⟨A3, a3, rfl⟩, ⟨A4, a4, rfl⟩, ⟨A5, a5, rfl⟩, ⟨A6, a6, rfl⟩⟩ := hform
  obtain ⟨KP, KR, B0, HZ0⟩ := st_boxes w #[.slice A0 S.data.length a0, .slice A1 S.ret.length a1, .int .i32 S.a, .slice A2 S.mem.length a2, .slice A3 S.cells.length a3, .slice A4 S.vars.length a4, .slice A5 S.out.length a5, .slice A6 S.inp.length a6, .int .i64 S.fault, .int .i64 S.fuel]
  have HC := Lib.hid (fun W (h : Below w.heap.size w W) => spec_copy _ _ _ _ _ _ _ S hs W (hr.below h))
  have HS := Lib.hid hs
  clear hr hs
  go_enter Try.func51, Try.ntmps51
  go_wp2_with fail
  refine (HC.out _ B0.out).mono ?_
  rintro e w1 ⟨v0, v1, v2, v3, v4, v5, v6, rfl, ho, hb⟩
  rw [HZ0.out] at ho
  have sz1 : w.heap.size + 2 ≤ w1.heap.size := by have := hb.size; rw [HZ0.out] at this; exact this
  have HB1 : Hid (Below w.heap.size w w1) := Lib.hid (B0.out.trans (hb.mono B0.out.size))
  have KR1 := Lib.hid (KR.out.below hb KR.out.lt)
  obtain ⟨⟨C0, c0, rfl⟩, ⟨C1, c1, rfl⟩, ⟨C2, c2, rfl⟩, ⟨C3, c3, rfl⟩, ⟨C4, c4, rfl⟩, ⟨C5, c5, rfl⟩, ⟨C6, c6, rfl⟩⟩ := ho.form HS.out
  have HO := Lib.hid ho
  obtain ⟨p0, p1, p2, p3, p4, p5, p6, p7, p8, p9⟩ := st_cells KR1.out
  have lr : w.heap.size + 1 < w1.heap.size := KR1.out.lt
  have fr := KR1.out.frozen
  clear ho hb KP KR B0 HZ0 HC
  go_upto_region 3 with (fail)
  have kr := KR1.out.alloc (.cells #[.slice C0 S.data.length c0, .slice C1 S.ret.length c1, .int .i32 S.a, .slice C2 S.mem.length c2, .slice C3 S.cells.length c3, .slice C4 S.vars.length c4, .slice C5 S.out.length c5, .slice C6 S.inp.length c6, .int .i64 f, .int .i64 S.fuel] 34)
  have ko := Blk.new w1 34 #[.slice C0 S.data.length c0, .slice C1 S.ret.length c1, .int .i32 S.a, .slice C2 S.mem.length c2, .slice C3 S.cells.length c3, .slice C4 S.vars.length c4, .slice C5 S.out.length c5, .slice C6 S.inp.length c6, .int .i64 f, .int .i64 S.fuel]
  have oz := (HO.out.alloc (.cells #[.slice C0 S.data.length c0, .slice C1 S.ret.length c1, .int .i32 S.a, .slice C2 S.mem.length c2, .slice C3 S.cells.length c3, .slice C4 S.vars.length c4, .slice C5 S.out.length c5, .slice C6 S.inp.length c6, .int .i64 f, .int .i64 S.fuel] 34)).scal S.a f S.fuel
  have bz := HB1.out.alloc HB1.out.size (.cells #[.slice C0 S.data.length c0, .slice C1 S.ret.length c1, .int .i32 S.a, .slice C2 S.mem.length c2, .slice C3 S.cells.length c3, .slice C4 S.vars.length c4, .slice C5 S.out.length c5, .slice C6 S.inp.length c6, .int .i64 f, .int .i64 S.fuel] 34)
  have hz := bz.size
  generalize (w1.alloc (.cells #[.slice C0 S.data.length c0, .slice C1 S.ret.length c1, .int .i32 S.a, .slice C2 S.mem.length c2, .slice C3 S.cells.length c3, .slice C4 S.vars.length c4, .slice C5 S.out.length c5, .slice C6 S.inp.length c6, .int .i64 f, .int .i64 S.fuel] 34)) = wz at kr ko oz bz hz ⊢
  obtain ⟨m0, m1, m2, m3, m4, m5, m6, m7, m8, m9⟩ := st_cells ko
  obtain ⟨n0_, n1_, n2_, n3_, n4_, n5_, n6_, n7_, n8_, n9_⟩ := st_cells kr
  have lz1 : w.heap.size + 1 < wz.heap.size := kr.lt
  have lz2 : w1.heap.size < wz.heap.size := ko.lt
  have fz1 := kr.frozen
  have fz2 := ko.frozen
  have KRZ := Lib.hid kr
  have OZ := Lib.hid oz
  have BZ := Lib.hid bz
  clear kr ko oz bz
  go_wp2_with fail
  have kr := KRZ.out
  exact st_end Try.results51 rfl rfl kr (BZ.out) OZ.out (by omega) (by omega) (.inl (by omega)) (by omega)
end Go.Proofs.Ytmnfdbgiemappaa

namespace Go.Proofs.Ytmnfdbgiemappaa
open Go.RowKit Go

end Go.Proofs.Ytmnfdbgiemappaa

namespace Go.Proofs.Ytmnfdbgiemappaa
open Go.RowKit Go

theorem rdI_new (w : World) (t : TypeId) (ys : List Int) (hl : ys.length ≤ 1000) : RdI (w.alloc (.cells (ys.map iv).toArray t)) (.slice (some ⟨w.heap.size, 0, none⟩) ys.length ys.length) ys := by
  refine ⟨_, _, rfl, by omega, fun i hi => ⟨⟨w.heap.size, 0, none⟩, rfl, by simp, ?_⟩⟩
  rw [addr_lit, Nat.zero_add, cell_of_row _ w.heap.size i (ys.map iv).toArray t (0, 0) (heap_alloc_new w _)]
  simp [hi]
theorem own_nil {w : World} {lo hi : Nat} : OwnSt w lo hi (.slice none 0 0) (.slice none 0 0) (.slice none 0 0) (.slice none 0 0) (.slice none 0 0) (.slice none 0 0) (.slice none 0 0) zero8 := by
  refine ⟨fun x hx k hk => ?_, .inl rfl, .inl rfl, World.ownsRow_nil _ _ _ _, World.ownsRow_nil _ _ _ _, World.ownsRow_nil _ _ _ _, World.ownsRow_nil _ _ _ _, World.ownsRow_nil _ _ _ _, World.ownsRow_nil _ _ _ _, ⟨rfl, .inl ⟨rfl, rfl⟩⟩⟩
  simp only [List.mem_cons, List.not_mem_nil, or_false, or_self] at hx
  subst hx
  simp [Value.ownBlock] at hk
theorem newst_zero {w W : World} (hb : Below w.heap.size w W) : NewSt w zero8 (.returned (.agg #[.slice none 0 0, .slice none 0 0, .int .i32 0, .slice none 0 0, .slice none 0 0, .slice none 0 0, .slice none 0 0, .slice none 0 0, .int .i64 0, .int .i64 0])) W :=
  ⟨_, _, _, _, _, _, _, rfl, own_nil, hb⟩
theorem put8_tot {S : S8} {t : Nat} {l : List Int} (hs : totSt S ≤ 2500000) : totSt (fin8 S (put8 S t l)) ≤ 4000000 := by
  unfold put8
  split
  · exact Nat.le_trans hs (by omega)
  · rename_i h
    unfold totSt at hs
    unfold fin8 totSt
    simp only [List.length_append, List.length_take]
    omega
theorem push8_tot (S : S8) (y : Int) (hs : totSt S ≤ 2500000) : totSt (push8 S y) ≤ 4000000 := by
  unfold push8
  split
  · split
    · exact put8_tot hs
    · omega
  · exact Nat.zero_le _
end Go.Proofs.Ytmnfdbgiemappaa

namespace Go.Proofs.Ytmnfdbgiemappaa
open Go.RowKit Go
variable {Z : BZ}

theorem BenchEnd.ret {w w' : World} {g lo hi : Nat} {d r m c v o i : Value} {S : S8} {res : Int ⊕ S8} {e : Ending} (h : BenchEnd Z w g lo hi d r m c v o i S res e w') : ∃ z, e = .returned (.int .i64 z) := by
  obtain ⟨-, h⟩ := h
  cases res with
  | inl f => exact ⟨f, h.1⟩
  | inr T => exact ⟨0, h.1⟩
/-- A bench whose words have taken some numbers: the rows are as they were. -/
structure Taken (Z : BZ) (w w1 : World) (g lo hi : Nat) (A : Option Addr) (n cap : Nat) (d r m c v o i : Value) (S : S8) : Prop where
  dform : d = .slice A S.data.length cap
  le : n ≤ S.data.length
  hhi : hi ≤ w.heap.size
  hlo : lo ≤ hi
  chg : Chg w w1 (fun k => k = g)
  own : OwnSt w1 lo hi d r m c v o i S
  box : Blk w1 g Z.t (Z.cs #[.slice A n cap, r, .int .i32 S.a, m, c, v, o, i, .int .i64 S.fault, .int .i64 S.fuel])
theorem Taken.start {w : World} {g lo hi cap : Nat} {A : Option Addr} {r m c v o i : Value} {S : S8} (hhi : hi ≤ w.heap.size) (hlo : lo ≤ hi) (ho : OwnSt w lo hi (.slice A S.data.length cap) r m c v o i S) (hB : Blk w g Z.t (Z.cs #[.slice A S.data.length cap, r, .int .i32 S.a, m, c, v, o, i, .int .i64 S.fault, .int .i64 S.fuel])) :
    Taken Z w w g lo hi A S.data.length cap (.slice A S.data.length cap) r m c v o i S := ⟨rfl, Nat.le_refl _, hhi, hlo, Chg.refl _ _, ho, hB⟩
theorem Taken.step {w w1 : World} {g lo hi n cap : Nat} {A : Option Addr} {d r m c v o i : Value} {S : S8} (h : Taken Z w w1 g lo hi A (n + 1) cap d r m c v o i S) : Taken Z w (w1.setCell ⟨g, 0, none⟩ (.slice A n cap)) g lo hi A n cap d r m c v o i S :=
  ⟨h.dform, by have := h.le; omega, h.hhi, h.hlo, h.chg.set rfl _, h.own.atBox h.box (only_setCell (World.grownBy.refl _ _) (.inl rfl) _) Z.n1 Z.n2 Z.n3 Z.n4 Z.n5, by have := h.box.putZ 0 (by simp) (.slice A n cap); simpa using this⟩
/-- The next number that is taken. -/
theorem Taken.cell {w w1 : World} {g lo hi n cap : Nat} {A : Option Addr} {d r m c v o i : Value} {S : S8} (h : Taken Z w w1 g lo hi A (n + 1) cap d r m c v o i S) : ∃ q, A = some ⟨q, 0, none⟩ ∧ n + 1 ≤ cap ∧ w1.cell? ⟨q, n, none⟩ = some (.int .i32 (S.data.getD n 0)) := by
  have hle := h.le
  obtain ⟨q, cp, cur, hv, hr⟩ := own_row h.own.d (by omega)
  have hv2 := h.dform.symm.trans hv
  injection hv2 with e1 e2 e3
  subst e1 e3
  have h1 : n + 1 ≤ cap := by have := hr.le; omega
  refine ⟨q, rfl, h1, ?_⟩
  rw [cell_of_row w1 q n cur.toArray 21 (0, 0) hr.row]
  have ht := congrArg (·[n]?) hr.take
  simp only [List.getElem?_take, List.getElem?_map] at ht
  rw [if_pos (by omega)] at ht
  rw [List.getElem?_toArray, ht, List.getD, List.getElem?_eq_getElem (by omega)]
  rfl
theorem same_none {S : S8} {n k : Nat} {P : Prop} (h16 : S.data.length ≤ 16) (hn : n + k ≤ S.data.length) (h : 16 < n + k) : P := by omega
theorem same_add {S : S8} {z : Int} {n : Nat} (hn : S.data.length = n) : (S.data.take n ++ [z]).take S.data.length = S.data ∧ S.data.length ≤ n + 1 := by
  subst hn
  simp
theorem top_get {S : S8} {n : Nat} (h : S.data.length = n + 1) : S.data = S.data.take n ++ [S.data.getD n 0] := by
  have e := List.take_append_drop n S.data
  have hd : S.data.drop n = [S.data.getD n 0] := by
    rw [List.drop_eq_getElem_cons (by omega), List.drop_of_length_le (by omega)]
    simp [List.getD, List.getElem?_eq_getElem (show n < S.data.length by omega)]
  rw [hd] at e
  exact e.symm
end Go.Proofs.Ytmnfdbgiemappaa

namespace Go.Proofs.Ytmnfdbgiemappaa
open Go.RowKit Go
variable {Z : BZ}

theorem taken_end {w w1 : World} {g lo hi n cap t : Nat} {A : Option Addr} {d r m c v o i : Value} {S : S8} (h : Taken Z w w1 g lo hi A n cap d r m c v o i S) (hn : S.data.length - t = n) (h16 : S.data.length ≤ 16) : BenchEnd Z w g lo hi d r m c v o i S (put8 S t []) (.returned (.int .i64 0)) w1 := by
  have hle := h.le
  have e : put8 S t [] = .inr { S with data := S.data.take n } := by
    unfold put8
    rw [hn, if_neg (by simp; omega), List.append_nil]
  rw [e]
  have hd := h.own.d
  rw [h.dform] at hd
  have hp := own_prefix hd hle
  rw [← List.map_take] at hp
  have hl : (S.data.take n).length = n := by simp; omega
  have hsz : hi ≤ w1.heap.size := Nat.le_trans h.hhi h.chg.size
  refine ⟨h.chg.weaken fun k _ hk => .inl hk, rfl, _, _, _, _, _, _, _, h.box, ?_⟩
  have hdm := h.own.dm
  rw [h.dform] at hdm
  exact OwnSt.of7T (S := { S with data := S.data.take n }) (by show w1.ownsRow lo _ 1 _ (S.data.take n).length _; rw [hl]; exact hp) h.own.r h.own.m h.own.c h.own.v h.own.o h.own.i (by rw [own_block (N := S.data.length)]; exact hdm) h.own.oi
end Go.Proofs.Ytmnfdbgiemappaa

namespace Go.Proofs.Ytmnfdbgiemappaa
open Go.RowKit Go
variable {Z : BZ}

theorem taken_fault {w w1 : World} {g lo hi n cap : Nat} {A : Option Addr} {d r m c v o i : Value} {S : S8} (h : Taken Z w w1 g lo hi A n cap d r m c v o i S) {f : Int} (hf : f ≠ 0) : BenchEnd Z w g lo hi d r m c v o i S (.inl f) (.returned (.int .i64 f)) w1 :=
  ⟨h.chg.weaken fun _ _ hk => .inl hk, rfl, hf, h.own⟩
theorem taken_a {w w1 : World} {g lo hi n cap t : Nat} {A : Option Addr} {d r m c v o i : Value} {S : S8} (h : Taken Z w w1 g lo hi A n cap d r m c v o i S) (hn : S.data.length - t = n) (y : Int) : BenchEnd Z w g lo hi d r m c v o i S (.inr { drop8 S t with a := y }) (.returned (.int .i64 0)) (w1.setCell ⟨g, 2, none⟩ (.int .i32 y)) := by
  have hle := h.le
  have hown := h.own.atBox h.box (only_setCell (World.grownBy.refl _ _) (p := ⟨g, 2, none⟩) (.inl rfl) (.int .i32 y)) Z.n1 Z.n2 Z.n3 Z.n4 Z.n5
  have hd := hown.d
  rw [h.dform] at hd
  have hp := own_prefix hd hle
  rw [← List.map_take] at hp
  have hl : (S.data.take n).length = n := by simp; omega
  have e : drop8 S t = { S with data := S.data.take n } := by unfold drop8; rw [hn]
  rw [e]
  refine ⟨(h.chg.set rfl _).weaken fun k _ hk => .inl hk, rfl, _, _, _, _, _, _, _, by have := h.box.putZ 2 (by simp) (.int .i32 y); simpa using this, ?_⟩
  have hdm := h.own.dm
  rw [h.dform] at hdm
  exact OwnSt.of7T (S := { S with data := S.data.take n, a := y }) (by show World.ownsRow _ lo _ 1 _ (S.data.take n).length _; rw [hl]; exact hp) hown.r hown.m hown.c hown.v hown.o hown.i (by rw [own_block (N := S.data.length)]; exact hdm) h.own.oi
end Go.Proofs.Ytmnfdbgiemappaa
