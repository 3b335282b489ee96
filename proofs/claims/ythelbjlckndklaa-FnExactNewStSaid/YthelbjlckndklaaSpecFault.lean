/-
  spec.l08Fault: a copy of a state with a fault.
-/
import Derived.Test.YthelbjlckndklaaStAlt
import Derived.Test.YthelbjlckndklaaSpecCopy
import Derived.Deep.Cut
namespace Go.Proofs.Ythelbjlckndklaa
open Go.RowKit Go

set_option maxRecDepth 100000 in
set_option maxHeartbeats 2500000 in
theorem spec_fault (d r m c v o i : Value) (S : S8) (f : Int) (hs : totSt S ≤ 4000000) (w : World) (hr : RdSt w d r m c v o i S) :
    Calls Try.prog 63 #[.agg #[d, r, .int .i32 S.a, m, c, v, o, i, .int .i64 S.fault, .int .i64 S.fuel], .int .i64 f] w (NewSt w { S with fault := f }) := by
  have hform := hr.form
  obtain ⟨⟨A0, a0, rfl⟩, ⟨A1, a1, rfl⟩, ⟨A2, a2, rfl⟩, ⟨A3, a3, rfl⟩, ⟨A4, a4, rfl⟩, ⟨A5, a5, rfl⟩, ⟨A6, a6, rfl⟩⟩ := hform
  have e1 : (w.alloc (.cells #[.slice A0 S.data.length a0, .slice A1 S.ret.length a1, .int .i32 S.a, .slice A2 S.mem.length a2, .slice A3 S.cells.length a3, .slice A4 S.vars.length a4, .slice A5 S.out.length a5, .slice A6 S.inp.length a6, .int .i64 S.fault, .int .i64 S.fuel] 33)).heap.size = w.heap.size + 1 := by simp
  have KP := Lib.hid (((Blk.new w 33 #[.slice A0 S.data.length a0, .slice A1 S.ret.length a1, .int .i32 S.a, .slice A2 S.mem.length a2, .slice A3 S.cells.length a3, .slice A4 S.vars.length a4, .slice A5 S.out.length a5, .slice A6 S.inp.length a6, .int .i64 S.fault, .int .i64 S.fuel]).alloc (.cells #[.slice none 0 0, .slice none 0 0, .int .i32 0, .slice none 0 0, .slice none 0 0, .slice none 0 0, .slice none 0 0, .slice none 0 0, .int .i64 0, .int .i64 0] 33)))
  have KR : Hid (Blk ((w.alloc (.cells #[.slice A0 S.data.length a0, .slice A1 S.ret.length a1, .int .i32 S.a, .slice A2 S.mem.length a2, .slice A3 S.cells.length a3, .slice A4 S.vars.length a4, .slice A5 S.out.length a5, .slice A6 S.inp.length a6, .int .i64 S.fault, .int .i64 S.fuel] 33)).alloc (.cells #[.slice none 0 0, .slice none 0 0, .int .i32 0, .slice none 0 0, .slice none 0 0, .slice none 0 0, .slice none 0 0, .slice none 0 0, .int .i64 0, .int .i64 0] 33)) (w.heap.size + 1) 33 #[.slice none 0 0, .slice none 0 0, .int .i32 0, .slice none 0 0, .slice none 0 0, .slice none 0 0, .slice none 0 0, .slice none 0 0, .int .i64 0, .int .i64 0]) := Lib.hid (by have := Blk.new (w.alloc (.cells #[.slice A0 S.data.length a0, .slice A1 S.ret.length a1, .int .i32 S.a, .slice A2 S.mem.length a2, .slice A3 S.cells.length a3, .slice A4 S.vars.length a4, .slice A5 S.out.length a5, .slice A6 S.inp.length a6, .int .i64 S.fault, .int .i64 S.fuel] 33)) 33 #[.slice none 0 0, .slice none 0 0, .int .i32 0, .slice none 0 0, .slice none 0 0, .slice none 0 0, .slice none 0 0, .slice none 0 0, .int .i64 0, .int .i64 0]; rw [e1] at this; exact this)
  have B0 : Hid (Below w.heap.size w ((w.alloc (.cells #[.slice A0 S.data.length a0, .slice A1 S.ret.length a1, .int .i32 S.a, .slice A2 S.mem.length a2, .slice A3 S.cells.length a3, .slice A4 S.vars.length a4, .slice A5 S.out.length a5, .slice A6 S.inp.length a6, .int .i64 S.fault, .int .i64 S.fuel] 33)).alloc (.cells #[.slice none 0 0, .slice none 0 0, .int .i32 0, .slice none 0 0, .slice none 0 0, .slice none 0 0, .slice none 0 0, .slice none 0 0, .int .i64 0, .int .i64 0] 33))) := Lib.hid (below_alloc2 w _ _)
  have Z0 : ((w.alloc (.cells #[.slice A0 S.data.length a0, .slice A1 S.ret.length a1, .int .i32 S.a, .slice A2 S.mem.length a2, .slice A3 S.cells.length a3, .slice A4 S.vars.length a4, .slice A5 S.out.length a5, .slice A6 S.inp.length a6, .int .i64 S.fault, .int .i64 S.fuel] 33)).alloc (.cells #[.slice none 0 0, .slice none 0 0, .int .i32 0, .slice none 0 0, .slice none 0 0, .slice none 0 0, .slice none 0 0, .slice none 0 0, .int .i64 0, .int .i64 0] 33)).heap.size = w.heap.size + 2 := by simp
  have HZ0 := Lib.hid Z0
  clear Z0 e1
  have HC := Lib.hid (fun W (h : Below w.heap.size w W) => spec_copy _ _ _ _ _ _ _ S hs W (hr.below h))
  have HS := Lib.hid hs
  clear hr hs
  go_enter Try.func63, Try.ntmps63
  go_wp2_with fail
  refine (HC.out _ B0.out).mono ?_
  rintro e w1 ⟨v0, v1, v2, v3, v4, v5, v6, rfl, ho, hb⟩
  rw [HZ0.out] at ho
  have sz1 : w.heap.size + 2 ≤ w1.heap.size := by have := hb.size; rw [HZ0.out] at this; exact this
  have HB1 : Hid (Below w.heap.size w w1) := Lib.hid (B0.out.trans (hb.mono B0.out.size))
  have KR1 := Lib.hid (KR.out.below hb KR.out.lt)
  obtain ⟨⟨C0, c0, rfl⟩, ⟨C1, c1, rfl⟩, ⟨C2, c2, rfl⟩, ⟨C3, c3, rfl⟩, ⟨C4, c4, rfl⟩, ⟨C5, c5, rfl⟩, ⟨C6, c6, rfl⟩⟩ := ho.form HS.out
  have HO := Lib.hid ho
  obtain ⟨p0, p1, p2, p3, p4, p5, p6, p7, p8, p9⟩ := st_cells KR1.out
  have lr : w.heap.size + 1 < w1.heap.size := KR1.out.lt
  have fr := KR1.out.frozen
  clear ho hb KP KR B0 HZ0 HC
  go_upto_region 3 with (fail)
  have kr := KR1.out.alloc (.cells #[.slice C0 S.data.length c0, .slice C1 S.ret.length c1, .int .i32 S.a, .slice C2 S.mem.length c2, .slice C3 S.cells.length c3, .slice C4 S.vars.length c4, .slice C5 S.out.length c5, .slice C6 S.inp.length c6, .int .i64 f, .int .i64 S.fuel] 33)
  have ko := Blk.new w1 33 #[.slice C0 S.data.length c0, .slice C1 S.ret.length c1, .int .i32 S.a, .slice C2 S.mem.length c2, .slice C3 S.cells.length c3, .slice C4 S.vars.length c4, .slice C5 S.out.length c5, .slice C6 S.inp.length c6, .int .i64 f, .int .i64 S.fuel]
  have oz := (HO.out.alloc (.cells #[.slice C0 S.data.length c0, .slice C1 S.ret.length c1, .int .i32 S.a, .slice C2 S.mem.length c2, .slice C3 S.cells.length c3, .slice C4 S.vars.length c4, .slice C5 S.out.length c5, .slice C6 S.inp.length c6, .int .i64 f, .int .i64 S.fuel] 33)).scal S.a f S.fuel
  have bz := HB1.out.alloc HB1.out.size (.cells #[.slice C0 S.data.length c0, .slice C1 S.ret.length c1, .int .i32 S.a, .slice C2 S.mem.length c2, .slice C3 S.cells.length c3, .slice C4 S.vars.length c4, .slice C5 S.out.length c5, .slice C6 S.inp.length c6, .int .i64 f, .int .i64 S.fuel] 33)
  have hz := bz.size
  generalize (w1.alloc (.cells #[.slice C0 S.data.length c0, .slice C1 S.ret.length c1, .int .i32 S.a, .slice C2 S.mem.length c2, .slice C3 S.cells.length c3, .slice C4 S.vars.length c4, .slice C5 S.out.length c5, .slice C6 S.inp.length c6, .int .i64 f, .int .i64 S.fuel] 33)) = wz at kr ko oz bz hz ⊢
  obtain ⟨m0, m1, m2, m3, m4, m5, m6, m7, m8, m9⟩ := st_cells ko
  obtain ⟨n0_, n1_, n2_, n3_, n4_, n5_, n6_, n7_, n8_, n9_⟩ := st_cells kr
  have lz1 : w.heap.size + 1 < wz.heap.size := kr.lt
  have lz2 : w1.heap.size < wz.heap.size := ko.lt
  have fz1 := kr.frozen
  have fz2 := ko.frozen
  have KRZ := Lib.hid kr
  have OZ := Lib.hid oz
  have BZ := Lib.hid bz
  clear kr ko oz bz
  go_wp2_with fail
  have kr := KRZ.out
  show bodyPost _ _ _ _ _ (putSt wz (w.heap.size + 1) (.slice C0 S.data.length c0) (.slice C1 S.ret.length c1) (.int .i32 S.a) (.slice C2 S.mem.length c2) (.slice C3 S.cells.length c3) (.slice C4 S.vars.length c4) (.slice C5 S.out.length c5) (.slice C6 S.inp.length c6) (.int .i64 f) (.int .i64 S.fuel))
  have y1 := putSt_blk kr (.slice C0 S.data.length c0) (.slice C1 S.ret.length c1) (.int .i32 S.a) (.slice C2 S.mem.length c2) (.slice C3 S.cells.length c3) (.slice C4 S.vars.length c4) (.slice C5 S.out.length c5) (.slice C6 S.inp.length c6) (.int .i64 f) (.int .i64 S.fuel)
  have y2 := (BZ.out).grown (putSt_only wz (w.heap.size + 1) (.slice C0 S.data.length c0) (.slice C1 S.ret.length c1) (.int .i32 S.a) (.slice C2 S.mem.length c2) (.slice C3 S.cells.length c3) (.slice C4 S.vars.length c4) (.slice C5 S.out.length c5) (.slice C6 S.inp.length c6) (.int .i64 f) (.int .i64 S.fuel)) (BZ.out).size (fun k hk => by injection hk with hk; omega)
  have y3 := OwnSt.setSt OZ.out (g := w.heap.size + 1) (.inl (by omega)) (.slice C0 S.data.length c0) (.slice C1 S.ret.length c1) (.int .i32 S.a) (.slice C2 S.mem.length c2) (.slice C3 S.cells.length c3) (.slice C4 S.vars.length c4) (.slice C5 S.out.length c5) (.slice C6 S.inp.length c6) (.int .i64 f) (.int .i64 S.fuel)
  have y4 := putSt_size wz (w.heap.size + 1) (.slice C0 S.data.length c0) (.slice C1 S.ret.length c1) (.int .i32 S.a) (.slice C2 S.mem.length c2) (.slice C3 S.cells.length c3) (.slice C4 S.vars.length c4) (.slice C5 S.out.length c5) (.slice C6 S.inp.length c6) (.int .i64 f) (.int .i64 S.fuel)
  generalize putSt wz (w.heap.size + 1) (.slice C0 S.data.length c0) (.slice C1 S.ret.length c1) (.int .i32 S.a) (.slice C2 S.mem.length c2) (.slice C3 S.cells.length c3) (.slice C4 S.vars.length c4) (.slice C5 S.out.length c5) (.slice C6 S.inp.length c6) (.int .i64 f) (.int .i64 S.fuel) = W at y1 y2 y3 y4 ⊢
  obtain ⟨z0, z1, z2, z3, z4, z5, z6, z7, z8, z9⟩ := st_cells y1
  exact bodyPost_ret (v := .agg #[.slice C0 S.data.length c0, .slice C1 S.ret.length c1, .int .i32 S.a, .slice C2 S.mem.length c2, .slice C3 S.cells.length c3, .slice C4 S.vars.length c4, .slice C5 S.out.length c5, .slice C6 S.inp.length c6, .int .i64 f, .int .i64 S.fuel]) (by simp [results, Try.results63, z0, z1, z2, z3, z4, z5, z6, z7, z8, z9, go_sem]) rfl (newst_of y3 (by omega) (by first | (rw [y4]; simp; done) | (rw [y4]; simp; omega) | omega) y2)
end Go.Proofs.Ythelbjlckndklaa
