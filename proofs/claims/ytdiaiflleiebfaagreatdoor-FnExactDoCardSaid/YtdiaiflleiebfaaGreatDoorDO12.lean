/-
  spec.l08Fault: a copy of a state with a fault.
  spec.l08Put: numbers taken out of Data, others put on.
  spec.l08Put in one; the size of what it makes.
-/
import Derived.Test.YtdiaiflleiebfaaGreatDoorDO9
import Derived.Test.YtdiaiflleiebfaaGreatDoorDO11
import Derived.Deep.Cut
namespace Go.Proofs.YtdiaiflleiebfaaGreatDoor
open Go.RowKit Go

set_option maxRecDepth 100000 in
set_option maxHeartbeats 2500000 in
theorem spec_fault (d r m c v o i : Value) (S : S8) (f : Int) (hs : totSt S ≤ 4000000) (w : World) (hr : RdSt w d r m c v o i S) :
    Calls Tryz.prog 39 #[.agg #[d, r, .int .i32 S.a, m, c, v, o, i, .int .i64 S.fault, .int .i64 S.fuel], .int .i64 f] w (NewSt w { S with fault := f }) := by
  have hform := hr.form
  obtain ⟨⟨A0, a0, rfl⟩, ⟨A1, a1, rfl⟩, ⟨A2, a2, rfl⟩, ⟨A3, a3, rfl⟩, ⟨A4, a4, rfl⟩, ⟨A5, a5, rfl⟩, ⟨A6, a6, rfl⟩⟩ := hform
  have e1 : (w.alloc (.cells #[.slice A0 S.data.length a0, .slice A1 S.ret.length a1, .int .i32 S.a, .slice A2 S.mem.length a2, .slice A3 S.cells.length a3, .slice A4 S.vars.length a4, .slice A5 S.out.length a5, .slice A6 S.inp.length a6, .int .i64 S.fault, .int .i64 S.fuel] 29)).heap.size = w.heap.size + 1 := by simp
  have KP := Lib.hid (((Blk.new w 29 #[.slice A0 S.data.length a0, .slice A1 S.ret.length a1, .int .i32 S.a, .slice A2 S.mem.length a2, .slice A3 S.cells.length a3, .slice A4 S.vars.length a4, .slice A5 S.out.length a5, .slice A6 S.inp.length a6, .int .i64 S.fault, .int .i64 S.fuel]).alloc (.cells #[.slice none 0 0, .slice none 0 0, .int .i32 0, .slice none 0 0, .slice none 0 0, .slice none 0 0, .slice none 0 0, .slice none 0 0, .int .i64 0, .int .i64 0] 29)))
  have KR : Hid (Blk ((w.alloc (.cells #[.slice A0 S.data.length a0, .slice A1 S.ret.length a1, .int .i32 S.a, .slice A2 S.mem.length a2, .slice A3 S.cells.length a3, .slice A4 S.vars.length a4, .slice A5 S.out.length a5, .slice A6 S.inp.length a6, .int .i64 S.fault, .int .i64 S.fuel] 29)).alloc (.cells #[.slice none 0 0, .slice none 0 0, .int .i32 0, .slice none 0 0, .slice none 0 0, .slice none 0 0, .slice none 0 0, .slice none 0 0, .int .i64 0, .int .i64 0] 29)) (w.heap.size + 1) 29 #[.slice none 0 0, .slice none 0 0, .int .i32 0, .slice none 0 0, .slice none 0 0, .slice none 0 0, .slice none 0 0, .slice none 0 0, .int .i64 0, .int .i64 0]) := Lib.hid (by have := Blk.new (w.alloc (.cells #[.slice A0 S.data.length a0, .slice A1 S.ret.length a1, .int .i32 S.a, .slice A2 S.mem.length a2, .slice A3 S.cells.length a3, .slice A4 S.vars.length a4, .slice A5 S.out.length a5, .slice A6 S.inp.length a6, .int .i64 S.fault, .int .i64 S.fuel] 29)) 29 #[.slice none 0 0, .slice none 0 0, .int .i32 0, .slice none 0 0, .slice none 0 0, .slice none 0 0, .slice none 0 0, .slice none 0 0, .int .i64 0, .int .i64 0]; rw [e1] at this; exact this)
  have B0 : Hid (Below w.heap.size w ((w.alloc (.cells #[.slice A0 S.data.length a0, .slice A1 S.ret.length a1, .int .i32 S.a, .slice A2 S.mem.length a2, .slice A3 S.cells.length a3, .slice A4 S.vars.length a4, .slice A5 S.out.length a5, .slice A6 S.inp.length a6, .int .i64 S.fault, .int .i64 S.fuel] 29)).alloc (.cells #[.slice none 0 0, .slice none 0 0, .int .i32 0, .slice none 0 0, .slice none 0 0, .slice none 0 0, .slice none 0 0, .slice none 0 0, .int .i64 0, .int .i64 0] 29))) := Lib.hid (below_alloc2 w _ _)
  have Z0 : ((w.alloc (.cells #[.slice A0 S.data.length a0, .slice A1 S.ret.length a1, .int .i32 S.a, .slice A2 S.mem.length a2, .slice A3 S.cells.length a3, .slice A4 S.vars.length a4, .slice A5 S.out.length a5, .slice A6 S.inp.length a6, .int .i64 S.fault, .int .i64 S.fuel] 29)).alloc (.cells #[.slice none 0 0, .slice none 0 0, .int .i32 0, .slice none 0 0, .slice none 0 0, .slice none 0 0, .slice none 0 0, .slice none 0 0, .int .i64 0, .int .i64 0] 29)).heap.size = w.heap.size + 2 := by simp
  have HZ0 := Lib.hid Z0
  clear Z0 e1
  have HC := Lib.hid (fun W (h : Below w.heap.size w W) => spec_copy _ _ _ _ _ _ _ S hs W (hr.below h))
  have HS := Lib.hid hs
  clear hr hs
  go_enter Tryz.func39, Tryz.ntmps39
  go_wp2_with fail
  refine (HC.out _ B0.out).mono ?_
  rintro e w1 ⟨v0, v1, v2, v3, v4, v5, v6, rfl, ho, hb⟩
  rw [HZ0.out] at ho
  have sz1 : w.heap.size + 2 ≤ w1.heap.size := by have := hb.size; rw [HZ0.out] at this; exact this
  have HB1 : Hid (Below w.heap.size w w1) := Lib.hid (B0.out.trans (hb.mono B0.out.size))
  have KR1 := Lib.hid (KR.out.below hb KR.out.lt)
  obtain ⟨⟨C0, c0, rfl⟩, ⟨C1, c1, rfl⟩, ⟨C2, c2, rfl⟩, ⟨C3, c3, rfl⟩, ⟨C4, c4, rfl⟩, ⟨C5, c5, rfl⟩, ⟨C6, c6, rfl⟩⟩ := ho.form HS.out
  have HO := Lib.hid ho
  obtain ⟨p0, p1, p2, p3, p4, p5, p6, p7, p8, p9⟩ := st_cells KR1.out
  have lr : w.heap.size + 1 < w1.heap.size := KR1.out.lt
  have fr := KR1.out.frozen
  clear ho hb KP KR B0 HZ0 HC
  go_upto_region 3 with (fail)
  have kr := KR1.out.alloc (.cells #[.slice C0 S.data.length c0, .slice C1 S.ret.length c1, .int .i32 S.a, .slice C2 S.mem.length c2, .slice C3 S.cells.length c3, .slice C4 S.vars.length c4, .slice C5 S.out.length c5, .slice C6 S.inp.length c6, .int .i64 f, .int .i64 S.fuel] 29)
  have ko := Blk.new w1 29 #[.slice C0 S.data.length c0, .slice C1 S.ret.length c1, .int .i32 S.a, .slice C2 S.mem.length c2, .slice C3 S.cells.length c3, .slice C4 S.vars.length c4, .slice C5 S.out.length c5, .slice C6 S.inp.length c6, .int .i64 f, .int .i64 S.fuel]
  have oz := (HO.out.alloc (.cells #[.slice C0 S.data.length c0, .slice C1 S.ret.length c1, .int .i32 S.a, .slice C2 S.mem.length c2, .slice C3 S.cells.length c3, .slice C4 S.vars.length c4, .slice C5 S.out.length c5, .slice C6 S.inp.length c6, .int .i64 f, .int .i64 S.fuel] 29)).scal S.a f S.fuel
  have bz := HB1.out.alloc HB1.out.size (.cells #[.slice C0 S.data.length c0, .slice C1 S.ret.length c1, .int .i32 S.a, .slice C2 S.mem.length c2, .slice C3 S.cells.length c3, .slice C4 S.vars.length c4, .slice C5 S.out.length c5, .slice C6 S.inp.length c6, .int .i64 f, .int .i64 S.fuel] 29)
  have hz := bz.size
  generalize (w1.alloc (.cells #[.slice C0 S.data.length c0, .slice C1 S.ret.length c1, .int .i32 S.a, .slice C2 S.mem.length c2, .slice C3 S.cells.length c3, .slice C4 S.vars.length c4, .slice C5 S.out.length c5, .slice C6 S.inp.length c6, .int .i64 f, .int .i64 S.fuel] 29)) = wz at kr ko oz bz hz ⊢
  obtain ⟨m0, m1, m2, m3, m4, m5, m6, m7, m8, m9⟩ := st_cells ko
  obtain ⟨n0_, n1_, n2_, n3_, n4_, n5_, n6_, n7_, n8_, n9_⟩ := st_cells kr
  have lz1 : w.heap.size + 1 < wz.heap.size := kr.lt
  have lz2 : w1.heap.size < wz.heap.size := ko.lt
  have fz1 := kr.frozen
  have fz2 := ko.frozen
  have KRZ := Lib.hid kr
  have OZ := Lib.hid oz
  have BZ := Lib.hid bz
  clear kr ko oz bz
  go_wp2_with fail
  have kr := KRZ.out
  show bodyPost _ _ _ _ _ (putSt wz (w.heap.size + 1) (.slice C0 S.data.length c0) (.slice C1 S.ret.length c1) (.int .i32 S.a) (.slice C2 S.mem.length c2) (.slice C3 S.cells.length c3) (.slice C4 S.vars.length c4) (.slice C5 S.out.length c5) (.slice C6 S.inp.length c6) (.int .i64 f) (.int .i64 S.fuel))
  have y1 := putSt_blk kr (.slice C0 S.data.length c0) (.slice C1 S.ret.length c1) (.int .i32 S.a) (.slice C2 S.mem.length c2) (.slice C3 S.cells.length c3) (.slice C4 S.vars.length c4) (.slice C5 S.out.length c5) (.slice C6 S.inp.length c6) (.int .i64 f) (.int .i64 S.fuel)
  have y2 := (BZ.out).grown (putSt_only wz (w.heap.size + 1) (.slice C0 S.data.length c0) (.slice C1 S.ret.length c1) (.int .i32 S.a) (.slice C2 S.mem.length c2) (.slice C3 S.cells.length c3) (.slice C4 S.vars.length c4) (.slice C5 S.out.length c5) (.slice C6 S.inp.length c6) (.int .i64 f) (.int .i64 S.fuel)) (BZ.out).size (fun k hk => by injection hk with hk; omega)
  have y3 := OwnSt.setSt OZ.out (g := w.heap.size + 1) (.inl (by omega)) (.slice C0 S.data.length c0) (.slice C1 S.ret.length c1) (.int .i32 S.a) (.slice C2 S.mem.length c2) (.slice C3 S.cells.length c3) (.slice C4 S.vars.length c4) (.slice C5 S.out.length c5) (.slice C6 S.inp.length c6) (.int .i64 f) (.int .i64 S.fuel)
  have y4 := putSt_size wz (w.heap.size + 1) (.slice C0 S.data.length c0) (.slice C1 S.ret.length c1) (.int .i32 S.a) (.slice C2 S.mem.length c2) (.slice C3 S.cells.length c3) (.slice C4 S.vars.length c4) (.slice C5 S.out.length c5) (.slice C6 S.inp.length c6) (.int .i64 f) (.int .i64 S.fuel)
  generalize putSt wz (w.heap.size + 1) (.slice C0 S.data.length c0) (.slice C1 S.ret.length c1) (.int .i32 S.a) (.slice C2 S.mem.length c2) (.slice C3 S.cells.length c3) (.slice C4 S.vars.length c4) (.slice C5 S.out.length c5) (.slice C6 S.inp.length c6) (.int .i64 f) (.int .i64 S.fuel) = W at y1 y2 y3 y4 ⊢
  obtain ⟨z0, z1, z2, z3, z4, z5, z6, z7, z8, z9⟩ := st_cells y1
  exact bodyPost_ret (v := .agg #[.slice C0 S.data.length c0, .slice C1 S.ret.length c1, .int .i32 S.a, .slice C2 S.mem.length c2, .slice C3 S.cells.length c3, .slice C4 S.vars.length c4, .slice C5 S.out.length c5, .slice C6 S.inp.length c6, .int .i64 f, .int .i64 S.fuel]) (by simp [results, Tryz.results39, z0, z1, z2, z3, z4, z5, z6, z7, z8, z9, go_sem]) rfl (newst_of y3 (by omega) (by first | (rw [y4]; simp; done) | (rw [y4]; simp; omega) | omega) y2)
end Go.Proofs.YtdiaiflleiebfaaGreatDoor

namespace Go.Proofs.YtdiaiflleiebfaaGreatDoor
open Go.RowKit Go

set_option maxRecDepth 100000 in
set_option maxHeartbeats 2500000 in
theorem spec_put_no (d r m c v o i : Value) (S : S8) (t : Nat) (lv : Value) (l : List Int) (ht : t ≤ S.data.length) (hl : l.length ≤ 3) (hdl : S.data.length ≤ 16) (h16 : 16 < S.data.length - t + l.length) (hs : totSt S ≤ 4000000) (w : World) (hr : RdSt w d r m c v o i S) (hv : RdI w lv l) :
    Calls Tryz.prog 42 #[.agg #[d, r, .int .i32 S.a, m, c, v, o, i, .int .i64 S.fault, .int .i64 S.fuel], .int .i64 t, lv] w (NewSt w { S with fault := 2 }) := by
  have hform := hr.form
  obtain ⟨⟨A0, a0, rfl⟩, ⟨A1, a1, rfl⟩, ⟨A2, a2, rfl⟩, ⟨A3, a3, rfl⟩, ⟨A4, a4, rfl⟩, ⟨A5, a5, rfl⟩, ⟨A6, a6, rfl⟩⟩ := hform
  obtain ⟨B, b, rfl⟩ := hv.form
  have e1 : (w.alloc (.cells #[.slice A0 S.data.length a0, .slice A1 S.ret.length a1, .int .i32 S.a, .slice A2 S.mem.length a2, .slice A3 S.cells.length a3, .slice A4 S.vars.length a4, .slice A5 S.out.length a5, .slice A6 S.inp.length a6, .int .i64 S.fault, .int .i64 S.fuel] 29)).heap.size = w.heap.size + 1 := by simp
  have KP := Lib.hid (((Blk.new w 29 #[.slice A0 S.data.length a0, .slice A1 S.ret.length a1, .int .i32 S.a, .slice A2 S.mem.length a2, .slice A3 S.cells.length a3, .slice A4 S.vars.length a4, .slice A5 S.out.length a5, .slice A6 S.inp.length a6, .int .i64 S.fault, .int .i64 S.fuel]).alloc (.cells #[.slice none 0 0, .slice none 0 0, .int .i32 0, .slice none 0 0, .slice none 0 0, .slice none 0 0, .slice none 0 0, .slice none 0 0, .int .i64 0, .int .i64 0] 29)))
  have KR : Hid (Blk ((w.alloc (.cells #[.slice A0 S.data.length a0, .slice A1 S.ret.length a1, .int .i32 S.a, .slice A2 S.mem.length a2, .slice A3 S.cells.length a3, .slice A4 S.vars.length a4, .slice A5 S.out.length a5, .slice A6 S.inp.length a6, .int .i64 S.fault, .int .i64 S.fuel] 29)).alloc (.cells #[.slice none 0 0, .slice none 0 0, .int .i32 0, .slice none 0 0, .slice none 0 0, .slice none 0 0, .slice none 0 0, .slice none 0 0, .int .i64 0, .int .i64 0] 29)) (w.heap.size + 1) 29 #[.slice none 0 0, .slice none 0 0, .int .i32 0, .slice none 0 0, .slice none 0 0, .slice none 0 0, .slice none 0 0, .slice none 0 0, .int .i64 0, .int .i64 0]) := Lib.hid (by have := Blk.new (w.alloc (.cells #[.slice A0 S.data.length a0, .slice A1 S.ret.length a1, .int .i32 S.a, .slice A2 S.mem.length a2, .slice A3 S.cells.length a3, .slice A4 S.vars.length a4, .slice A5 S.out.length a5, .slice A6 S.inp.length a6, .int .i64 S.fault, .int .i64 S.fuel] 29)) 29 #[.slice none 0 0, .slice none 0 0, .int .i32 0, .slice none 0 0, .slice none 0 0, .slice none 0 0, .slice none 0 0, .slice none 0 0, .int .i64 0, .int .i64 0]; rw [e1] at this; exact this)
  have B0 : Hid (Below w.heap.size w ((w.alloc (.cells #[.slice A0 S.data.length a0, .slice A1 S.ret.length a1, .int .i32 S.a, .slice A2 S.mem.length a2, .slice A3 S.cells.length a3, .slice A4 S.vars.length a4, .slice A5 S.out.length a5, .slice A6 S.inp.length a6, .int .i64 S.fault, .int .i64 S.fuel] 29)).alloc (.cells #[.slice none 0 0, .slice none 0 0, .int .i32 0, .slice none 0 0, .slice none 0 0, .slice none 0 0, .slice none 0 0, .slice none 0 0, .int .i64 0, .int .i64 0] 29))) := Lib.hid (below_alloc2 w _ _)
  have Z0 : ((w.alloc (.cells #[.slice A0 S.data.length a0, .slice A1 S.ret.length a1, .int .i32 S.a, .slice A2 S.mem.length a2, .slice A3 S.cells.length a3, .slice A4 S.vars.length a4, .slice A5 S.out.length a5, .slice A6 S.inp.length a6, .int .i64 S.fault, .int .i64 S.fuel] 29)).alloc (.cells #[.slice none 0 0, .slice none 0 0, .int .i32 0, .slice none 0 0, .slice none 0 0, .slice none 0 0, .slice none 0 0, .slice none 0 0, .int .i64 0, .int .i64 0] 29)).heap.size = w.heap.size + 2 := by simp
  have HZ0 := Lib.hid Z0
  clear Z0 e1
  have HF := Lib.hid (fun W (h : Below w.heap.size w W) => spec_fault _ _ _ _ _ _ _ S 2 hs W (hr.below h))
  have HS := Lib.hid hs
  have g1 : (16 : Int) < (S.data.length : Int) - (t : Int) + (l.length : Int) := by omega
  have g2 : (t : Int) ≤ (S.data.length : Int) := by omega
  have g3 : (S.data.length : Int) ≤ 16 := by omega
  have g4 : (l.length : Int) ≤ 3 := by omega
  clear hr hs hv h16
  go_enter Tryz.func42, Tryz.ntmps42
  go_wp2_with fail
  refine (HF.out _ B0.out).mono ?_
  rintro e w1 ⟨v0, v1, v2, v3, v4, v5, v6, rfl, ho, hb⟩
  rw [HZ0.out] at ho
  have sz1 : w.heap.size + 2 ≤ w1.heap.size := by have := hb.size; rw [HZ0.out] at this; exact this
  have HB1 : Hid (Below w.heap.size w w1) := Lib.hid (B0.out.trans (hb.mono B0.out.size))
  have KR1 := Lib.hid (KR.out.below hb KR.out.lt)
  have hfo := ho.form (S := { S with fault := 2 }) HS.out
  obtain ⟨⟨C0, c0, rfl⟩, ⟨C1, c1, rfl⟩, ⟨C2, c2, rfl⟩, ⟨C3, c3, rfl⟩, ⟨C4, c4, rfl⟩, ⟨C5, c5, rfl⟩, ⟨C6, c6, rfl⟩⟩ := hfo
  have HO := Lib.hid ho
  obtain ⟨p0, p1, p2, p3, p4, p5, p6, p7, p8, p9⟩ := st_cells KR1.out
  have fr := KR1.out.frozen
  clear ho hb KP KR B0 HZ0 HF g1
  go_wp2_with fail
  have kr := KR1.out
  show bodyPost _ _ _ _ _ (putSt w1 (w.heap.size + 1) (.slice C0 S.data.length c0) (.slice C1 S.ret.length c1) (.int .i32 S.a) (.slice C2 S.mem.length c2) (.slice C3 S.cells.length c3) (.slice C4 S.vars.length c4) (.slice C5 S.out.length c5) (.slice C6 S.inp.length c6) (.int .i64 2) (.int .i64 S.fuel))
  have y1 := putSt_blk kr (.slice C0 S.data.length c0) (.slice C1 S.ret.length c1) (.int .i32 S.a) (.slice C2 S.mem.length c2) (.slice C3 S.cells.length c3) (.slice C4 S.vars.length c4) (.slice C5 S.out.length c5) (.slice C6 S.inp.length c6) (.int .i64 2) (.int .i64 S.fuel)
  have y2 := (HB1.out).grown (putSt_only w1 (w.heap.size + 1) (.slice C0 S.data.length c0) (.slice C1 S.ret.length c1) (.int .i32 S.a) (.slice C2 S.mem.length c2) (.slice C3 S.cells.length c3) (.slice C4 S.vars.length c4) (.slice C5 S.out.length c5) (.slice C6 S.inp.length c6) (.int .i64 2) (.int .i64 S.fuel)) (HB1.out).size (fun k hk => by injection hk with hk; omega)
  have y3 := OwnSt.setSt HO.out (g := w.heap.size + 1) (.inl (by omega)) (.slice C0 S.data.length c0) (.slice C1 S.ret.length c1) (.int .i32 S.a) (.slice C2 S.mem.length c2) (.slice C3 S.cells.length c3) (.slice C4 S.vars.length c4) (.slice C5 S.out.length c5) (.slice C6 S.inp.length c6) (.int .i64 2) (.int .i64 S.fuel)
  have y4 := putSt_size w1 (w.heap.size + 1) (.slice C0 S.data.length c0) (.slice C1 S.ret.length c1) (.int .i32 S.a) (.slice C2 S.mem.length c2) (.slice C3 S.cells.length c3) (.slice C4 S.vars.length c4) (.slice C5 S.out.length c5) (.slice C6 S.inp.length c6) (.int .i64 2) (.int .i64 S.fuel)
  generalize putSt w1 (w.heap.size + 1) (.slice C0 S.data.length c0) (.slice C1 S.ret.length c1) (.int .i32 S.a) (.slice C2 S.mem.length c2) (.slice C3 S.cells.length c3) (.slice C4 S.vars.length c4) (.slice C5 S.out.length c5) (.slice C6 S.inp.length c6) (.int .i64 2) (.int .i64 S.fuel) = W at y1 y2 y3 y4 ⊢
  obtain ⟨z0, z1, z2, z3, z4, z5, z6, z7, z8, z9⟩ := st_cells y1
  exact bodyPost_ret (v := .agg #[.slice C0 S.data.length c0, .slice C1 S.ret.length c1, .int .i32 S.a, .slice C2 S.mem.length c2, .slice C3 S.cells.length c3, .slice C4 S.vars.length c4, .slice C5 S.out.length c5, .slice C6 S.inp.length c6, .int .i64 2, .int .i64 S.fuel]) (by simp [results, Tryz.results42, z0, z1, z2, z3, z4, z5, z6, z7, z8, z9, go_sem]) rfl (newst_of y3 (by omega) (by first | (rw [y4]; simp; done) | (rw [y4]; simp; omega) | omega) y2)
set_option maxRecDepth 100000 in
set_option maxHeartbeats 2500000 in
theorem spec_put_yes (d r m c v o i : Value) (S : S8) (t : Nat) (lv : Value) (l : List Int) (ht : t ≤ S.data.length) (hl : l.length ≤ 3) (hdl : S.data.length ≤ 16) (h16 : S.data.length - t + l.length ≤ 16) (hs : totSt S ≤ 4000000) (w : World) (hr : RdSt w d r m c v o i S) (hv : RdI w lv l) :
    Calls Tryz.prog 42 #[.agg #[d, r, .int .i32 S.a, m, c, v, o, i, .int .i64 S.fault, .int .i64 S.fuel], .int .i64 t, lv] w (NewSt w { S with data := S.data.take (S.data.length - t) ++ l }) := by
  have hform := hr.form
  obtain ⟨⟨A0, a0, rfl⟩, ⟨A1, a1, rfl⟩, ⟨A2, a2, rfl⟩, ⟨A3, a3, rfl⟩, ⟨A4, a4, rfl⟩, ⟨A5, a5, rfl⟩, ⟨A6, a6, rfl⟩⟩ := hform
  obtain ⟨B, b, rfl⟩ := hv.form
  have e1 : (w.alloc (.cells #[.slice A0 S.data.length a0, .slice A1 S.ret.length a1, .int .i32 S.a, .slice A2 S.mem.length a2, .slice A3 S.cells.length a3, .slice A4 S.vars.length a4, .slice A5 S.out.length a5, .slice A6 S.inp.length a6, .int .i64 S.fault, .int .i64 S.fuel] 29)).heap.size = w.heap.size + 1 := by simp
  have KP := Lib.hid (((Blk.new w 29 #[.slice A0 S.data.length a0, .slice A1 S.ret.length a1, .int .i32 S.a, .slice A2 S.mem.length a2, .slice A3 S.cells.length a3, .slice A4 S.vars.length a4, .slice A5 S.out.length a5, .slice A6 S.inp.length a6, .int .i64 S.fault, .int .i64 S.fuel]).alloc (.cells #[.slice none 0 0, .slice none 0 0, .int .i32 0, .slice none 0 0, .slice none 0 0, .slice none 0 0, .slice none 0 0, .slice none 0 0, .int .i64 0, .int .i64 0] 29)))
  have KR : Hid (Blk ((w.alloc (.cells #[.slice A0 S.data.length a0, .slice A1 S.ret.length a1, .int .i32 S.a, .slice A2 S.mem.length a2, .slice A3 S.cells.length a3, .slice A4 S.vars.length a4, .slice A5 S.out.length a5, .slice A6 S.inp.length a6, .int .i64 S.fault, .int .i64 S.fuel] 29)).alloc (.cells #[.slice none 0 0, .slice none 0 0, .int .i32 0, .slice none 0 0, .slice none 0 0, .slice none 0 0, .slice none 0 0, .slice none 0 0, .int .i64 0, .int .i64 0] 29)) (w.heap.size + 1) 29 #[.slice none 0 0, .slice none 0 0, .int .i32 0, .slice none 0 0, .slice none 0 0, .slice none 0 0, .slice none 0 0, .slice none 0 0, .int .i64 0, .int .i64 0]) := Lib.hid (by have := Blk.new (w.alloc (.cells #[.slice A0 S.data.length a0, .slice A1 S.ret.length a1, .int .i32 S.a, .slice A2 S.mem.length a2, .slice A3 S.cells.length a3, .slice A4 S.vars.length a4, .slice A5 S.out.length a5, .slice A6 S.inp.length a6, .int .i64 S.fault, .int .i64 S.fuel] 29)) 29 #[.slice none 0 0, .slice none 0 0, .int .i32 0, .slice none 0 0, .slice none 0 0, .slice none 0 0, .slice none 0 0, .slice none 0 0, .int .i64 0, .int .i64 0]; rw [e1] at this; exact this)
  have B0 : Hid (Below w.heap.size w ((w.alloc (.cells #[.slice A0 S.data.length a0, .slice A1 S.ret.length a1, .int .i32 S.a, .slice A2 S.mem.length a2, .slice A3 S.cells.length a3, .slice A4 S.vars.length a4, .slice A5 S.out.length a5, .slice A6 S.inp.length a6, .int .i64 S.fault, .int .i64 S.fuel] 29)).alloc (.cells #[.slice none 0 0, .slice none 0 0, .int .i32 0, .slice none 0 0, .slice none 0 0, .slice none 0 0, .slice none 0 0, .slice none 0 0, .int .i64 0, .int .i64 0] 29))) := Lib.hid (below_alloc2 w _ _)
  have Z0 : ((w.alloc (.cells #[.slice A0 S.data.length a0, .slice A1 S.ret.length a1, .int .i32 S.a, .slice A2 S.mem.length a2, .slice A3 S.cells.length a3, .slice A4 S.vars.length a4, .slice A5 S.out.length a5, .slice A6 S.inp.length a6, .int .i64 S.fault, .int .i64 S.fuel] 29)).alloc (.cells #[.slice none 0 0, .slice none 0 0, .int .i32 0, .slice none 0 0, .slice none 0 0, .slice none 0 0, .slice none 0 0, .slice none 0 0, .int .i64 0, .int .i64 0] 29)).heap.size = w.heap.size + 2 := by simp
  have HZ0 := Lib.hid Z0
  clear Z0 e1
  have HC := Lib.hid (fun W (h : Below w.heap.size w W) => spec_copy _ _ _ _ _ _ _ S hs W (hr.below h))
  have HS := Lib.hid hs
  have HV := Lib.hid (fun W (h : Below w.heap.size w W) => hv.below h)
  obtain ⟨i0, hi0, hz0, hz1, hz2⟩ := info_parts infoI
  obtain ⟨n, hn⟩ : ∃ n, S.data.length - t = n := ⟨_, rfl⟩
  have HN := Lib.hid hn
  have g0 : (S.data.length : Int) - (t : Int) = (n : Int) := by omega
  have g1 : ¬ (16 : Int) < (n : Int) + (l.length : Int) := by omega
  have g2 : (t : Int) ≤ (S.data.length : Int) := by omega
  have g3 : (S.data.length : Int) ≤ 16 := by omega
  have g4 : (l.length : Int) ≤ 3 := by omega
  have hnN : n ≤ S.data.length := by omega
  clear hr hs hv h16
  rw [hn]
  clear hn
  go_enter Tryz.func42, Tryz.ntmps42
  go_wp2_with fail
  refine (HC.out _ B0.out).mono ?_
  rintro e w1 ⟨v0, v1, v2, v3, v4, v5, v6, rfl, ho, hb⟩
  rw [HZ0.out] at ho
  have sz1 : w.heap.size + 2 ≤ w1.heap.size := by have := hb.size; rw [HZ0.out] at this; exact this
  have HB1 : Hid (Below w.heap.size w w1) := Lib.hid (B0.out.trans (hb.mono B0.out.size))
  have KR1 := Lib.hid (KR.out.below hb KR.out.lt)
  obtain ⟨⟨C0, c0, rfl⟩, ⟨C1, c1, rfl⟩, ⟨C2, c2, rfl⟩, ⟨C3, c3, rfl⟩, ⟨C4, c4, rfl⟩, ⟨C5, c5, rfl⟩, ⟨C6, c6, rfl⟩⟩ := ho.form HS.out
  have hcap : S.data.length ≤ c0 := own_cap ho.d _ _ _ rfl
  have hcn : n ≤ c0 := by omega
  have hcn' : (n : Int) ≤ (c0 : Int) := by omega
  have HO := Lib.hid (ho.alloc (.cells #[.slice C0 S.data.length c0, .slice C1 S.ret.length c1, .int .i32 S.a, .slice C2 S.mem.length c2, .slice C3 S.cells.length c3, .slice C4 S.vars.length c4, .slice C5 S.out.length c5, .slice C6 S.inp.length c6, .int .i64 S.fault, .int .i64 S.fuel] 29))
  have OD := Lib.hid (own_prefix (HO.out.d) hnN)
  have SRC := Lib.hid (srcI ((HV.out w1 HB1.out).below (below_alloc w1 (.cells #[.slice C0 S.data.length c0, .slice C1 S.ret.length c1, .int .i32 S.a, .slice C2 S.mem.length c2, .slice C3 S.cells.length c3, .slice C4 S.vars.length c4, .slice C5 S.out.length c5, .slice C6 S.inp.length c6, .int .i64 S.fault, .int .i64 S.fuel] 29))))
  obtain ⟨p0, p1, p2, p3, p4, p5, p6, p7, p8, p9⟩ := st_cells KR1.out
  have lr : w.heap.size + 1 < w1.heap.size := KR1.out.lt
  have fr := KR1.out.frozen
  clear ho hb KP KR B0 HZ0 HC HV
  go_wp2_with (at_builtin; refine wpList_append_src rfl _ _ 24 rfl (w.heap.size + 2) 21 i0 (.int .i32 0) 1 4 Tryz.underlying24 hi0 hz0 hz1 hz2 rfl (by decide) (.slice C0 n c0) n ((S.data.map iv).take n) rfl OD.out (.slice B l.length b) l.length (l.map iv) rfl SRC.out (oneI _) (by unfold maxLen; omega) (by omega) (by simp; omega) ?_; intro v' w2 hown halt; refine unstop ?_)
  refine Stop.go ?_
  have hd' : w2.ownsRow (w.heap.size + 2) 21 1 v' (S.data.take n ++ l).length ((S.data.take n ++ l).map iv) := by
    have e1 : (S.data.take n ++ l).length = n + l.length := by simp; omega
    rw [e1, List.map_append, List.map_take]
    exact hown
  have hw1 : (w1.alloc (.cells #[.slice C0 S.data.length c0, .slice C1 S.ret.length c1, .int .i32 S.a, .slice C2 S.mem.length c2, .slice C3 S.cells.length c3, .slice C4 S.vars.length c4, .slice C5 S.out.length c5, .slice C6 S.inp.length c6, .int .i64 S.fault, .int .i64 S.fuel] 29)).heap.size = w1.heap.size + 1 := by simp
  have hgr : (w1.alloc (.cells #[.slice C0 S.data.length c0, .slice C1 S.ret.length c1, .int .i32 S.a, .slice C2 S.mem.length c2, .slice C3 S.cells.length c3, .slice C4 S.vars.length c4, .slice C5 S.out.length c5, .slice C6 S.inp.length c6, .int .i64 S.fault, .int .i64 S.fuel] 29)).grownBy w2 (Value.slice C0 S.data.length c0).ownBlock := by rw [own_block (N := n)]; exact halt.out.grown
  have hwh : ∀ k, v'.ownBlock = some k → (Value.slice C0 S.data.length c0).ownBlock = some k ∨ (w1.alloc (.cells #[.slice C0 S.data.length c0, .slice C1 S.ret.length c1, .int .i32 S.a, .slice C2 S.mem.length c2, .slice C3 S.cells.length c3, .slice C4 S.vars.length c4, .slice C5 S.out.length c5, .slice C6 S.inp.length c6, .int .i64 S.fault, .int .i64 S.fuel] 29)).heap.size ≤ k := by rw [own_block (N := n)]; exact halt.out.where_
  have HO2 := Lib.hid (HO.out.data (by rw [hw1]; omega) hd' hgr hwh)
  have gne1 : some (w.heap.size + 1) ≠ (Value.slice C0 S.data.length c0).ownBlock := fun e => by have := own_lt HO.out.d _ e.symm; omega
  have gne2 : some w1.heap.size ≠ (Value.slice C0 S.data.length c0).ownBlock := fun e => by have := HO.out.top _ (by simp) _ e.symm; omega
  have KR2 := Lib.hid ((KR1.out.alloc (.cells #[.slice C0 S.data.length c0, .slice C1 S.ret.length c1, .int .i32 S.a, .slice C2 S.mem.length c2, .slice C3 S.cells.length c3, .slice C4 S.vars.length c4, .slice C5 S.out.length c5, .slice C6 S.inp.length c6, .int .i64 S.fault, .int .i64 S.fuel] 29)).grown hgr gne1)
  have KO2 := Lib.hid ((Blk.new w1 29 #[.slice C0 S.data.length c0, .slice C1 S.ret.length c1, .int .i32 S.a, .slice C2 S.mem.length c2, .slice C3 S.cells.length c3, .slice C4 S.vars.length c4, .slice C5 S.out.length c5, .slice C6 S.inp.length c6, .int .i64 S.fault, .int .i64 S.fuel]).grown hgr gne2)
  have HB2 : Hid (Below w.heap.size w w2) := Lib.hid ((HB1.out.alloc HB1.out.size (.cells #[.slice C0 S.data.length c0, .slice C1 S.ret.length c1, .int .i32 S.a, .slice C2 S.mem.length c2, .slice C3 S.cells.length c3, .slice C4 S.vars.length c4, .slice C5 S.out.length c5, .slice C6 S.inp.length c6, .int .i64 S.fault, .int .i64 S.fuel] 29)).grown hgr (by rw [hw1]; omega) (fun k hk => by have := own_lt HO.out.d k hk; omega))
  have sz2 : w1.heap.size + 1 ≤ w2.heap.size := by have := hgr.size; rw [hw1] at this; exact this
  obtain ⟨D, dc, rfl⟩ := own_form hd'
  have hlen : (S.data.take n ++ l).length = n + l.length := by simp; omega
  clear p0 p1 p2 p3 p4 p5 p6 p7 p8 p9 lr fr
  obtain ⟨q0, q1, q2, q3, q4, q5, q6, q7, q8, q9⟩ := st_cells KO2.out
  obtain ⟨p0, p1, p2, p3, p4, p5, p6, p7, p8, p9⟩ := st_cells KR2.out
  have lr : w.heap.size + 1 < w2.heap.size := KR2.out.lt
  have lo_ : w1.heap.size < w2.heap.size := KO2.out.lt
  have fr := KR2.out.frozen
  have fo := KO2.out.frozen
  have nbo : w.heap.size + 1 ≠ w1.heap.size := by omega
  rw [hlen] at HO2 hd'
  clear hown halt hd' hwh hw1 hgr gne1 gne2 KR1 HB1 HO OD SRC
  go_upto_region 6 with (fail)
  have kr := KR2.out.far (p := ⟨w1.heap.size, 0, none⟩) nbo (.slice D (n + l.length) dc)
  have ko := (show Blk (w2.setCell ⟨w1.heap.size, 0, none⟩ (.slice D (n + l.length) dc)) w1.heap.size 29 #[.slice D (n + l.length) dc, .slice C1 S.ret.length c1, .int .i32 S.a, .slice C2 S.mem.length c2, .slice C3 S.cells.length c3, .slice C4 S.vars.length c4, .slice C5 S.out.length c5, .slice C6 S.inp.length c6, .int .i64 S.fault, .int .i64 S.fuel] by have := KO2.out.put 0 (.slice D (n + l.length) dc); simpa using this)
  have oz := HO2.out.atBox KO2.out (only_setCell (World.grownBy.refl _ _) (p := ⟨w1.heap.size, 0, none⟩) (.inl rfl) (.slice D (n + l.length) dc)) (by decide) (by decide) (by decide) (by decide) (by decide)
  have bz := HB2.out.setCell (p := ⟨w1.heap.size, 0, none⟩) (show w.heap.size ≤ w1.heap.size by omega) (.slice D (n + l.length) dc)
  have hz := bz.size
  have hy : w2.heap.size ≤ (w2.setCell ⟨w1.heap.size, 0, none⟩ (.slice D (n + l.length) dc)).heap.size := by simp [World.setCell]
  generalize (w2.setCell ⟨w1.heap.size, 0, none⟩ (.slice D (n + l.length) dc)) = wz at kr ko oz bz hz hy ⊢
  obtain ⟨m0, m1, m2, m3, m4, m5, m6, m7, m8, m9⟩ := st_cells ko
  obtain ⟨n0_, n1_, n2_, n3_, n4_, n5_, n6_, n7_, n8_, n9_⟩ := st_cells kr
  have lz1 : w.heap.size + 1 < wz.heap.size := kr.lt
  have lz2 : w1.heap.size < wz.heap.size := ko.lt
  have fz1 := kr.frozen
  have fz2 := ko.frozen
  have KRZ := Lib.hid kr
  have OZ := Lib.hid oz
  have BZ := Lib.hid bz
  clear kr ko oz bz
  go_wp2_with fail
  have kr := KRZ.out
  show bodyPost _ _ _ _ _ (putSt wz (w.heap.size + 1) (.slice D (n + l.length) dc) (.slice C1 S.ret.length c1) (.int .i32 S.a) (.slice C2 S.mem.length c2) (.slice C3 S.cells.length c3) (.slice C4 S.vars.length c4) (.slice C5 S.out.length c5) (.slice C6 S.inp.length c6) (.int .i64 S.fault) (.int .i64 S.fuel))
  have y1 := putSt_blk kr (.slice D (n + l.length) dc) (.slice C1 S.ret.length c1) (.int .i32 S.a) (.slice C2 S.mem.length c2) (.slice C3 S.cells.length c3) (.slice C4 S.vars.length c4) (.slice C5 S.out.length c5) (.slice C6 S.inp.length c6) (.int .i64 S.fault) (.int .i64 S.fuel)
  have y2 := (BZ.out).grown (putSt_only wz (w.heap.size + 1) (.slice D (n + l.length) dc) (.slice C1 S.ret.length c1) (.int .i32 S.a) (.slice C2 S.mem.length c2) (.slice C3 S.cells.length c3) (.slice C4 S.vars.length c4) (.slice C5 S.out.length c5) (.slice C6 S.inp.length c6) (.int .i64 S.fault) (.int .i64 S.fuel)) (BZ.out).size (fun k hk => by injection hk with hk; omega)
  have y3 := OwnSt.setSt OZ.out (g := w.heap.size + 1) (.inl (by omega)) (.slice D (n + l.length) dc) (.slice C1 S.ret.length c1) (.int .i32 S.a) (.slice C2 S.mem.length c2) (.slice C3 S.cells.length c3) (.slice C4 S.vars.length c4) (.slice C5 S.out.length c5) (.slice C6 S.inp.length c6) (.int .i64 S.fault) (.int .i64 S.fuel)
  have y4 := putSt_size wz (w.heap.size + 1) (.slice D (n + l.length) dc) (.slice C1 S.ret.length c1) (.int .i32 S.a) (.slice C2 S.mem.length c2) (.slice C3 S.cells.length c3) (.slice C4 S.vars.length c4) (.slice C5 S.out.length c5) (.slice C6 S.inp.length c6) (.int .i64 S.fault) (.int .i64 S.fuel)
  generalize putSt wz (w.heap.size + 1) (.slice D (n + l.length) dc) (.slice C1 S.ret.length c1) (.int .i32 S.a) (.slice C2 S.mem.length c2) (.slice C3 S.cells.length c3) (.slice C4 S.vars.length c4) (.slice C5 S.out.length c5) (.slice C6 S.inp.length c6) (.int .i64 S.fault) (.int .i64 S.fuel) = W at y1 y2 y3 y4 ⊢
  obtain ⟨z0, z1, z2, z3, z4, z5, z6, z7, z8, z9⟩ := st_cells y1
  exact bodyPost_ret (v := .agg #[.slice D (n + l.length) dc, .slice C1 S.ret.length c1, .int .i32 S.a, .slice C2 S.mem.length c2, .slice C3 S.cells.length c3, .slice C4 S.vars.length c4, .slice C5 S.out.length c5, .slice C6 S.inp.length c6, .int .i64 S.fault, .int .i64 S.fuel]) (by simp [results, Tryz.results42, z0, z1, z2, z3, z4, z5, z6, z7, z8, z9, go_sem]) rfl (newst_of y3 (by omega) (by first | (rw [y4]; simp; done) | (rw [y4]; simp; omega) | omega) y2)
end Go.Proofs.YtdiaiflleiebfaaGreatDoor

namespace Go.Proofs.YtdiaiflleiebfaaGreatDoor
open Go.RowKit Go

theorem rdI_new (w : World) (t : TypeId) (ys : List Int) (hl : ys.length ≤ 1000) : RdI (w.alloc (.cells (ys.map iv).toArray t)) (.slice (some ⟨w.heap.size, 0, none⟩) ys.length ys.length) ys := by
  refine ⟨_, _, rfl, by omega, fun i hi => ⟨⟨w.heap.size, 0, none⟩, rfl, by simp, ?_⟩⟩
  rw [addr_lit, Nat.zero_add, cell_of_row _ w.heap.size i (ys.map iv).toArray t (0, 0) (heap_alloc_new w _)]
  simp [hi]
theorem own_nil {w : World} {lo hi : Nat} : OwnSt w lo hi (.slice none 0 0) (.slice none 0 0) (.slice none 0 0) (.slice none 0 0) (.slice none 0 0) (.slice none 0 0) (.slice none 0 0) zero8 := by
  refine ⟨fun x hx k hk => ?_, .inl rfl, .inl rfl, World.ownsRow_nil _ _ _ _, World.ownsRow_nil _ _ _ _, World.ownsRow_nil _ _ _ _, World.ownsRow_nil _ _ _ _, World.ownsRow_nil _ _ _ _, World.ownsRow_nil _ _ _ _, ⟨rfl, .inl ⟨rfl, rfl⟩⟩⟩
  simp only [List.mem_cons, List.not_mem_nil, or_false, or_self] at hx
  subst hx
  simp [Value.ownBlock] at hk
theorem newst_zero {w W : World} (hb : Below w.heap.size w W) : NewSt w zero8 (.returned (.agg #[.slice none 0 0, .slice none 0 0, .int .i32 0, .slice none 0 0, .slice none 0 0, .slice none 0 0, .slice none 0 0, .slice none 0 0, .int .i64 0, .int .i64 0])) W :=
  ⟨_, _, _, _, _, _, _, rfl, own_nil, hb⟩
theorem put8_tot {S : S8} {t : Nat} {l : List Int} (hs : totSt S ≤ 2500000) : totSt (fin8 S (put8 S t l)) ≤ 4000000 := by
  unfold put8
  split
  · exact Nat.le_trans hs (by omega)
  · rename_i h
    unfold totSt at hs
    unfold fin8 totSt
    simp only [List.length_append, List.length_take]
    omega
theorem push8_tot (S : S8) (y : Int) (hs : totSt S ≤ 2500000) : totSt (push8 S y) ≤ 4000000 := by
  unfold push8
  split
  · split
    · exact put8_tot hs
    · omega
  · exact Nat.zero_le _
theorem spec_put (d r m c v o i : Value) (S : S8) (t : Nat) (lv : Value) (l : List Int) (ht : t ≤ S.data.length) (hl : l.length ≤ 3) (hdl : S.data.length ≤ 16) (hs : totSt S ≤ 4000000) (w : World) (hr : RdSt w d r m c v o i S) (hv : RdI w lv l) :
    Calls Tryz.prog 42 #[.agg #[d, r, .int .i32 S.a, m, c, v, o, i, .int .i64 S.fault, .int .i64 S.fuel], .int .i64 t, lv] w (NewSt w (fin8 S (put8 S t l))) := by
  by_cases h : 16 < S.data.length - t + l.length
  · have e : fin8 S (put8 S t l) = { S with fault := 2 } := by unfold put8; rw [if_pos h]; rfl
    rw [e]
    exact spec_put_no d r m c v o i S t lv l ht hl hdl h hs w hr hv
  · have e : fin8 S (put8 S t l) = { S with data := S.data.take (S.data.length - t) ++ l } := by unfold put8; rw [if_neg h]; rfl
    rw [e]
    exact spec_put_yes d r m c v o i S t lv l ht hl hdl (by omega) hs w hr hv
end Go.Proofs.YtdiaiflleiebfaaGreatDoor
