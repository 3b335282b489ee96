/-
  spec.l08Other: key, where it can't be done or there is nothing to read.
-/
import Derived.Test.YtdiaiflleiebfaaGreatDoorDO28
import Derived.Test.YtdiaiflleiebfaaGreatDoorDO16
namespace Go.Proofs.YtdiaiflleiebfaaGreatDoor
open Go.RowKit Go

set_option maxRecDepth 100000 in
set_option maxHeartbeats 3000000 in
theorem key_none_full (d r m c v o i : Value) (S : S8) (x y : Int) (_hx0 : -2147483648 ≤ x) (_hx1 : x ≤ 2147483647) (_hy0 : -2147483648 ≤ y) (_hy1 : y ≤ 2147483647) (hinp : S.inp = []) (h16 : S.data.length = 16) (hs : totSt S ≤ 2500000) (w : World) (hr : RdSt w d r m c v o i S) (hok : Ok8 S) :
    Calls Tryz.prog 43 #[.agg #[d, r, .int .i32 S.a, m, c, v, o, i, .int .i64 S.fault, .int .i64 S.fuel], .string ⟨#[107, 101, 121]⟩, .int .i32 x, .int .i32 y] w (NewSt w (fin8 S (prim8 18 S x y))) := by
  have hform := hr.form
  obtain ⟨⟨A0, a0, rfl⟩, ⟨A1, a1, rfl⟩, ⟨A2, a2, rfl⟩, ⟨A3, a3, rfl⟩, ⟨A4, a4, rfl⟩, ⟨A5, a5, rfl⟩, ⟨A6, a6, rfl⟩⟩ := hform
  have e1 : (w.alloc (.cells #[.slice A0 S.data.length a0, .slice A1 S.ret.length a1, .int .i32 S.a, .slice A2 S.mem.length a2, .slice A3 S.cells.length a3, .slice A4 S.vars.length a4, .slice A5 S.out.length a5, .slice A6 S.inp.length a6, .int .i64 S.fault, .int .i64 S.fuel] 29)).heap.size = w.heap.size + 1 := by simp
  have KP := Lib.hid (((Blk.new w 29 #[.slice A0 S.data.length a0, .slice A1 S.ret.length a1, .int .i32 S.a, .slice A2 S.mem.length a2, .slice A3 S.cells.length a3, .slice A4 S.vars.length a4, .slice A5 S.out.length a5, .slice A6 S.inp.length a6, .int .i64 S.fault, .int .i64 S.fuel]).alloc (.cells #[.slice none 0 0, .slice none 0 0, .int .i32 0, .slice none 0 0, .slice none 0 0, .slice none 0 0, .slice none 0 0, .slice none 0 0, .int .i64 0, .int .i64 0] 29)))
  have KR : Hid (Blk ((w.alloc (.cells #[.slice A0 S.data.length a0, .slice A1 S.ret.length a1, .int .i32 S.a, .slice A2 S.mem.length a2, .slice A3 S.cells.length a3, .slice A4 S.vars.length a4, .slice A5 S.out.length a5, .slice A6 S.inp.length a6, .int .i64 S.fault, .int .i64 S.fuel] 29)).alloc (.cells #[.slice none 0 0, .slice none 0 0, .int .i32 0, .slice none 0 0, .slice none 0 0, .slice none 0 0, .slice none 0 0, .slice none 0 0, .int .i64 0, .int .i64 0] 29)) (w.heap.size + 1) 29 #[.slice none 0 0, .slice none 0 0, .int .i32 0, .slice none 0 0, .slice none 0 0, .slice none 0 0, .slice none 0 0, .slice none 0 0, .int .i64 0, .int .i64 0]) := Lib.hid (by have := Blk.new (w.alloc (.cells #[.slice A0 S.data.length a0, .slice A1 S.ret.length a1, .int .i32 S.a, .slice A2 S.mem.length a2, .slice A3 S.cells.length a3, .slice A4 S.vars.length a4, .slice A5 S.out.length a5, .slice A6 S.inp.length a6, .int .i64 S.fault, .int .i64 S.fuel] 29)) 29 #[.slice none 0 0, .slice none 0 0, .int .i32 0, .slice none 0 0, .slice none 0 0, .slice none 0 0, .slice none 0 0, .slice none 0 0, .int .i64 0, .int .i64 0]; rw [e1] at this; exact this)
  have B0 : Hid (Below w.heap.size w ((w.alloc (.cells #[.slice A0 S.data.length a0, .slice A1 S.ret.length a1, .int .i32 S.a, .slice A2 S.mem.length a2, .slice A3 S.cells.length a3, .slice A4 S.vars.length a4, .slice A5 S.out.length a5, .slice A6 S.inp.length a6, .int .i64 S.fault, .int .i64 S.fuel] 29)).alloc (.cells #[.slice none 0 0, .slice none 0 0, .int .i32 0, .slice none 0 0, .slice none 0 0, .slice none 0 0, .slice none 0 0, .slice none 0 0, .int .i64 0, .int .i64 0] 29))) := Lib.hid (below_alloc2 w _ _)
  have Z0 : ((w.alloc (.cells #[.slice A0 S.data.length a0, .slice A1 S.ret.length a1, .int .i32 S.a, .slice A2 S.mem.length a2, .slice A3 S.cells.length a3, .slice A4 S.vars.length a4, .slice A5 S.out.length a5, .slice A6 S.inp.length a6, .int .i64 S.fault, .int .i64 S.fuel] 29)).alloc (.cells #[.slice none 0 0, .slice none 0 0, .int .i32 0, .slice none 0 0, .slice none 0 0, .slice none 0 0, .slice none 0 0, .slice none 0 0, .int .i64 0, .int .i64 0] 29)).heap.size = w.heap.size + 2 := by simp
  have HZ0 := Lib.hid Z0
  clear Z0 e1
  have hlt : 0 ≤ S.data.length := Nat.zero_le _
  have hdl := hok.data
  have HPUT := Lib.hid (fun lv W (h : Below w.heap.size w W) (hv : RdI W lv [-1]) => spec_put _ _ _ _ _ _ _ S 0 lv [-1] hlt (by simp) hdl (by omega) W (hr.below h) hv)
  have hpr : prim8 18 S x y = put8 S 0 [-1] := by unfold prim8; simp only [hinp]
  have hres : fin8 S (prim8 18 S x y) = { S with fault := 2 } := by
    rw [hpr]
    unfold put8
    rw [if_pos (by simp; omega)]
    rfl
  rw [show fin8 S (put8 S 0 [-1]) = { S with fault := 2 } by unfold put8; rw [if_pos (by simp; omega)]; rfl] at HPUT
  rw [hres]
  have HT : Hid (totSt { S with fault := 2 } ≤ 4000000) := Lib.hid (show totSt S ≤ 4000000 by omega)
  have i1 : ¬ (0 : Int) < (S.inp.length : Int) := by rw [hinp]; decide
  have HINP := Lib.hid hinp
  have HV : Hid (RdI (((w.alloc (.cells #[.slice A0 S.data.length a0, .slice A1 S.ret.length a1, .int .i32 S.a, .slice A2 S.mem.length a2, .slice A3 S.cells.length a3, .slice A4 S.vars.length a4, .slice A5 S.out.length a5, .slice A6 S.inp.length a6, .int .i64 S.fault, .int .i64 S.fuel] 29)).alloc (.cells #[.slice none 0 0, .slice none 0 0, .int .i32 0, .slice none 0 0, .slice none 0 0, .slice none 0 0, .slice none 0 0, .slice none 0 0, .int .i64 0, .int .i64 0] 29)).alloc (.cells #[.int .i32 (-1)] 21)) (.slice (some ⟨w.heap.size + 1 + 1, 0, none⟩) 1 1) [-1]) := Lib.hid (by have h := rdI_new ((w.alloc (.cells #[.slice A0 S.data.length a0, .slice A1 S.ret.length a1, .int .i32 S.a, .slice A2 S.mem.length a2, .slice A3 S.cells.length a3, .slice A4 S.vars.length a4, .slice A5 S.out.length a5, .slice A6 S.inp.length a6, .int .i64 S.fault, .int .i64 S.fuel] 29)).alloc (.cells #[.slice none 0 0, .slice none 0 0, .int .i32 0, .slice none 0 0, .slice none 0 0, .slice none 0 0, .slice none 0 0, .slice none 0 0, .int .i64 0, .int .i64 0] 29)) 21 [-1] (by simp); rw [HZ0.out] at h; exact h)
  clear hr hs hok hlt hdl hinp h16 hres hpr
  go_enter Tryz.func43, Tryz.ntmps43
  go_wp2_with fail
  refine (HPUT.out _ _ (B0.out.alloc B0.out.size _) HV.out).mono ?_
  rintro e w1 ⟨v0, v1, v2, v3, v4, v5, v6, rfl, ho, hb1⟩
  have sz1 : w.heap.size + 2 ≤ w1.heap.size := by have := hb1.size; first | (rw [HZ0.out] at this; exact this) | (rw [World.size_alloc, HZ0.out] at this; omega)
  have hlo1 : w.heap.size + 2 ≤ (((w.alloc (.cells #[.slice A0 S.data.length a0, .slice A1 S.ret.length a1, .int .i32 S.a, .slice A2 S.mem.length a2, .slice A3 S.cells.length a3, .slice A4 S.vars.length a4, .slice A5 S.out.length a5, .slice A6 S.inp.length a6, .int .i64 S.fault, .int .i64 S.fuel] 29)).alloc (.cells #[.slice none 0 0, .slice none 0 0, .int .i32 0, .slice none 0 0, .slice none 0 0, .slice none 0 0, .slice none 0 0, .slice none 0 0, .int .i64 0, .int .i64 0] 29)).alloc (.cells #[.int .i32 (-1)] 21)).heap.size := by first | (rw [HZ0.out]; exact Nat.le_refl _) | (rw [World.size_alloc, HZ0.out]; omega)
  have HB1 : Hid (Below w.heap.size w w1) := Lib.hid ((B0.out.alloc B0.out.size (.cells #[.int .i32 (-1)] 21)).trans (hb1.mono (B0.out.alloc B0.out.size (.cells #[.int .i32 (-1)] 21)).size))
  have KR1 := Lib.hid ((KR.out.alloc (.cells #[.int .i32 (-1)] 21)).below hb1 (KR.out.alloc (.cells #[.int .i32 (-1)] 21)).lt)
  have HO1 := Lib.hid (ho.mono (l2 := w.heap.size + 2) (h2 := w1.heap.size) hlo1 (Nat.le_refl _))
  obtain ⟨⟨C0, c0, rfl⟩, ⟨C1, c1, rfl⟩, ⟨C2, c2, rfl⟩, ⟨C3, c3, rfl⟩, ⟨C4, c4, rfl⟩, ⟨C5, c5, rfl⟩, ⟨C6, c6, rfl⟩⟩ := ho.form (S := { S with fault := 2 }) HT.out
  clear ho hb1 KP KR B0 HZ0 hlo1
  obtain ⟨r0, r1, r2, r3, r4, r5, r6, r7, r8, r9⟩ := st_cells KR1.out
  have lr : w.heap.size + 1 < w1.heap.size := KR1.out.lt
  have fr := KR1.out.frozen
  have f2 : ((2 : Int) == 0) = false := by decide
  go_upto_region 25 with (fail)
  have kr := KR1.out.alloc (.cells #[.slice C0 S.data.length c0, .slice C1 S.ret.length c1, .int .i32 S.a, .slice C2 S.mem.length c2, .slice C3 S.cells.length c3, .slice C4 S.vars.length c4, .slice C5 S.out.length c5, .slice C6 S.inp.length c6, .int .i64 2, .int .i64 S.fuel] 29)
  have ko := Blk.new w1 29 #[.slice C0 S.data.length c0, .slice C1 S.ret.length c1, .int .i32 S.a, .slice C2 S.mem.length c2, .slice C3 S.cells.length c3, .slice C4 S.vars.length c4, .slice C5 S.out.length c5, .slice C6 S.inp.length c6, .int .i64 2, .int .i64 S.fuel]
  have oz := HO1.out.alloc (.cells #[.slice C0 S.data.length c0, .slice C1 S.ret.length c1, .int .i32 S.a, .slice C2 S.mem.length c2, .slice C3 S.cells.length c3, .slice C4 S.vars.length c4, .slice C5 S.out.length c5, .slice C6 S.inp.length c6, .int .i64 2, .int .i64 S.fuel] 29)
  have bz := HB1.out.alloc HB1.out.size (.cells #[.slice C0 S.data.length c0, .slice C1 S.ret.length c1, .int .i32 S.a, .slice C2 S.mem.length c2, .slice C3 S.cells.length c3, .slice C4 S.vars.length c4, .slice C5 S.out.length c5, .slice C6 S.inp.length c6, .int .i64 2, .int .i64 S.fuel] 29)
  have hz := bz.size
  have hy : w1.heap.size ≤ (w1.alloc (.cells #[.slice C0 S.data.length c0, .slice C1 S.ret.length c1, .int .i32 S.a, .slice C2 S.mem.length c2, .slice C3 S.cells.length c3, .slice C4 S.vars.length c4, .slice C5 S.out.length c5, .slice C6 S.inp.length c6, .int .i64 2, .int .i64 S.fuel] 29)).heap.size := by first | (simp only [World.size_alloc]; omega) | (simp only [World.size_setCell]; omega) | (simp only [World.size_alloc, World.size_setCell]; omega)
  generalize (w1.alloc (.cells #[.slice C0 S.data.length c0, .slice C1 S.ret.length c1, .int .i32 S.a, .slice C2 S.mem.length c2, .slice C3 S.cells.length c3, .slice C4 S.vars.length c4, .slice C5 S.out.length c5, .slice C6 S.inp.length c6, .int .i64 2, .int .i64 S.fuel] 29)) = wz at kr ko oz bz hz hy ⊢
  obtain ⟨m0, m1, m2, m3, m4, m5, m6, m7, m8, m9⟩ := st_cells ko
  obtain ⟨n0_, n1_, n2_, n3_, n4_, n5_, n6_, n7_, n8_, n9_⟩ := st_cells kr
  have lz1 : w.heap.size + 1 < wz.heap.size := kr.lt
  have lz2 : w1.heap.size < wz.heap.size := ko.lt
  have fz1 := kr.frozen
  have fz2 := ko.frozen
  have KRZ := Lib.hid kr
  have OZ := Lib.hid oz
  have BZ := Lib.hid bz
  clear kr ko oz bz
  go_wp2_with fail
  have kr := KRZ.out
  show bodyPost _ _ _ _ _ (putSt wz (w.heap.size + 1) (.slice C0 S.data.length c0) (.slice C1 S.ret.length c1) (.int .i32 S.a) (.slice C2 S.mem.length c2) (.slice C3 S.cells.length c3) (.slice C4 S.vars.length c4) (.slice C5 S.out.length c5) (.slice C6 S.inp.length c6) (.int .i64 2) (.int .i64 S.fuel))
  have y1 := putSt_blk kr (.slice C0 S.data.length c0) (.slice C1 S.ret.length c1) (.int .i32 S.a) (.slice C2 S.mem.length c2) (.slice C3 S.cells.length c3) (.slice C4 S.vars.length c4) (.slice C5 S.out.length c5) (.slice C6 S.inp.length c6) (.int .i64 2) (.int .i64 S.fuel)
  have y2 := (BZ.out).grown (putSt_only wz (w.heap.size + 1) (.slice C0 S.data.length c0) (.slice C1 S.ret.length c1) (.int .i32 S.a) (.slice C2 S.mem.length c2) (.slice C3 S.cells.length c3) (.slice C4 S.vars.length c4) (.slice C5 S.out.length c5) (.slice C6 S.inp.length c6) (.int .i64 2) (.int .i64 S.fuel)) (BZ.out).size (fun k hk => by injection hk with hk; omega)
  have y3 := OwnSt.setSt OZ.out (g := w.heap.size + 1) (.inl (by omega)) (.slice C0 S.data.length c0) (.slice C1 S.ret.length c1) (.int .i32 S.a) (.slice C2 S.mem.length c2) (.slice C3 S.cells.length c3) (.slice C4 S.vars.length c4) (.slice C5 S.out.length c5) (.slice C6 S.inp.length c6) (.int .i64 2) (.int .i64 S.fuel)
  have y4 := putSt_size wz (w.heap.size + 1) (.slice C0 S.data.length c0) (.slice C1 S.ret.length c1) (.int .i32 S.a) (.slice C2 S.mem.length c2) (.slice C3 S.cells.length c3) (.slice C4 S.vars.length c4) (.slice C5 S.out.length c5) (.slice C6 S.inp.length c6) (.int .i64 2) (.int .i64 S.fuel)
  generalize putSt wz (w.heap.size + 1) (.slice C0 S.data.length c0) (.slice C1 S.ret.length c1) (.int .i32 S.a) (.slice C2 S.mem.length c2) (.slice C3 S.cells.length c3) (.slice C4 S.vars.length c4) (.slice C5 S.out.length c5) (.slice C6 S.inp.length c6) (.int .i64 2) (.int .i64 S.fuel) = W at y1 y2 y3 y4 ⊢
  obtain ⟨z0, z1, z2, z3, z4, z5, z6, z7, z8, z9⟩ := st_cells y1
  exact bodyPost_ret (v := .agg #[.slice C0 S.data.length c0, .slice C1 S.ret.length c1, .int .i32 S.a, .slice C2 S.mem.length c2, .slice C3 S.cells.length c3, .slice C4 S.vars.length c4, .slice C5 S.out.length c5, .slice C6 S.inp.length c6, .int .i64 2, .int .i64 S.fuel]) (by simp [results, Tryz.results43, z0, z1, z2, z3, z4, z5, z6, z7, z8, z9, go_sem]) rfl (newst_of y3 (by omega) (by first | (rw [y4]; simp; done) | (rw [y4]; simp; omega) | omega) y2)
set_option maxRecDepth 100000 in
set_option maxHeartbeats 3000000 in
theorem key_none (d r m c v o i : Value) (S : S8) (x y : Int) (_hx0 : -2147483648 ≤ x) (_hx1 : x ≤ 2147483647) (_hy0 : -2147483648 ≤ y) (_hy1 : y ≤ 2147483647) (hinp : S.inp = []) (h16 : S.data.length < 16) (hf : S.fault = 0) (hs : totSt S ≤ 2500000) (w : World) (hr : RdSt w d r m c v o i S) (hok : Ok8 S) :
    Calls Tryz.prog 43 #[.agg #[d, r, .int .i32 S.a, m, c, v, o, i, .int .i64 S.fault, .int .i64 S.fuel], .string ⟨#[107, 101, 121]⟩, .int .i32 x, .int .i32 y] w (NewSt w (fin8 S (prim8 18 S x y))) := by
  have hform := hr.form
  obtain ⟨⟨A0, a0, rfl⟩, ⟨A1, a1, rfl⟩, ⟨A2, a2, rfl⟩, ⟨A3, a3, rfl⟩, ⟨A4, a4, rfl⟩, ⟨A5, a5, rfl⟩, ⟨A6, a6, rfl⟩⟩ := hform
  have e1 : (w.alloc (.cells #[.slice A0 S.data.length a0, .slice A1 S.ret.length a1, .int .i32 S.a, .slice A2 S.mem.length a2, .slice A3 S.cells.length a3, .slice A4 S.vars.length a4, .slice A5 S.out.length a5, .slice A6 S.inp.length a6, .int .i64 S.fault, .int .i64 S.fuel] 29)).heap.size = w.heap.size + 1 := by simp
  have KP := Lib.hid (((Blk.new w 29 #[.slice A0 S.data.length a0, .slice A1 S.ret.length a1, .int .i32 S.a, .slice A2 S.mem.length a2, .slice A3 S.cells.length a3, .slice A4 S.vars.length a4, .slice A5 S.out.length a5, .slice A6 S.inp.length a6, .int .i64 S.fault, .int .i64 S.fuel]).alloc (.cells #[.slice none 0 0, .slice none 0 0, .int .i32 0, .slice none 0 0, .slice none 0 0, .slice none 0 0, .slice none 0 0, .slice none 0 0, .int .i64 0, .int .i64 0] 29)))
  have KR : Hid (Blk ((w.alloc (.cells #[.slice A0 S.data.length a0, .slice A1 S.ret.length a1, .int .i32 S.a, .slice A2 S.mem.length a2, .slice A3 S.cells.length a3, .slice A4 S.vars.length a4, .slice A5 S.out.length a5, .slice A6 S.inp.length a6, .int .i64 S.fault, .int .i64 S.fuel] 29)).alloc (.cells #[.slice none 0 0, .slice none 0 0, .int .i32 0, .slice none 0 0, .slice none 0 0, .slice none 0 0, .slice none 0 0, .slice none 0 0, .int .i64 0, .int .i64 0] 29)) (w.heap.size + 1) 29 #[.slice none 0 0, .slice none 0 0, .int .i32 0, .slice none 0 0, .slice none 0 0, .slice none 0 0, .slice none 0 0, .slice none 0 0, .int .i64 0, .int .i64 0]) := Lib.hid (by have := Blk.new (w.alloc (.cells #[.slice A0 S.data.length a0, .slice A1 S.ret.length a1, .int .i32 S.a, .slice A2 S.mem.length a2, .slice A3 S.cells.length a3, .slice A4 S.vars.length a4, .slice A5 S.out.length a5, .slice A6 S.inp.length a6, .int .i64 S.fault, .int .i64 S.fuel] 29)) 29 #[.slice none 0 0, .slice none 0 0, .int .i32 0, .slice none 0 0, .slice none 0 0, .slice none 0 0, .slice none 0 0, .slice none 0 0, .int .i64 0, .int .i64 0]; rw [e1] at this; exact this)
  have B0 : Hid (Below w.heap.size w ((w.alloc (.cells #[.slice A0 S.data.length a0, .slice A1 S.ret.length a1, .int .i32 S.a, .slice A2 S.mem.length a2, .slice A3 S.cells.length a3, .slice A4 S.vars.length a4, .slice A5 S.out.length a5, .slice A6 S.inp.length a6, .int .i64 S.fault, .int .i64 S.fuel] 29)).alloc (.cells #[.slice none 0 0, .slice none 0 0, .int .i32 0, .slice none 0 0, .slice none 0 0, .slice none 0 0, .slice none 0 0, .slice none 0 0, .int .i64 0, .int .i64 0] 29))) := Lib.hid (below_alloc2 w _ _)
  have Z0 : ((w.alloc (.cells #[.slice A0 S.data.length a0, .slice A1 S.ret.length a1, .int .i32 S.a, .slice A2 S.mem.length a2, .slice A3 S.cells.length a3, .slice A4 S.vars.length a4, .slice A5 S.out.length a5, .slice A6 S.inp.length a6, .int .i64 S.fault, .int .i64 S.fuel] 29)).alloc (.cells #[.slice none 0 0, .slice none 0 0, .int .i32 0, .slice none 0 0, .slice none 0 0, .slice none 0 0, .slice none 0 0, .slice none 0 0, .int .i64 0, .int .i64 0] 29)).heap.size = w.heap.size + 2 := by simp
  have HZ0 := Lib.hid Z0
  clear Z0 e1
  have hlt : 0 ≤ S.data.length := Nat.zero_le _
  have hdl := hok.data
  have HPUT := Lib.hid (fun lv W (h : Below w.heap.size w W) (hv : RdI W lv [-1]) => spec_put _ _ _ _ _ _ _ S 0 lv [-1] hlt (by simp) hdl (by omega) W (hr.below h) hv)
  obtain ⟨T, hT0⟩ : ∃ T, ({ S with data := S.data.take (S.data.length - 0) ++ [-1] } : S8) = T := ⟨_, rfl⟩
  have hT : fin8 S (put8 S 0 [-1]) = T := by
    rw [← hT0]
    unfold put8
    rw [if_neg (by simp; omega)]
    rfl
  have HT : Hid (totSt T ≤ 4000000) := Lib.hid (by rw [← hT]; exact put8_tot hs)
  have hpr : prim8 18 S x y = put8 S 0 [-1] := by unfold prim8; simp only [hinp]
  have hres : fin8 S (prim8 18 S x y) = T := by
    rw [← hT0, hpr]
    unfold put8
    rw [if_neg (by simp; omega)]
    rfl
  rw [hT] at HPUT
  rw [hres]
  have hTi : T.inp = S.inp := by rw [← hT0]
  have HTI := Lib.hid hTi
  have HTF : Hid (T.fault = 0) := Lib.hid (by rw [← hT0]; exact hf)
  have i1 : ¬ (0 : Int) < (S.inp.length : Int) := by rw [hinp]; decide
  have HINP := Lib.hid hinp
  have HV : Hid (RdI (((w.alloc (.cells #[.slice A0 S.data.length a0, .slice A1 S.ret.length a1, .int .i32 S.a, .slice A2 S.mem.length a2, .slice A3 S.cells.length a3, .slice A4 S.vars.length a4, .slice A5 S.out.length a5, .slice A6 S.inp.length a6, .int .i64 S.fault, .int .i64 S.fuel] 29)).alloc (.cells #[.slice none 0 0, .slice none 0 0, .int .i32 0, .slice none 0 0, .slice none 0 0, .slice none 0 0, .slice none 0 0, .slice none 0 0, .int .i64 0, .int .i64 0] 29)).alloc (.cells #[.int .i32 (-1)] 21)) (.slice (some ⟨w.heap.size + 1 + 1, 0, none⟩) 1 1) [-1]) := Lib.hid (by have h := rdI_new ((w.alloc (.cells #[.slice A0 S.data.length a0, .slice A1 S.ret.length a1, .int .i32 S.a, .slice A2 S.mem.length a2, .slice A3 S.cells.length a3, .slice A4 S.vars.length a4, .slice A5 S.out.length a5, .slice A6 S.inp.length a6, .int .i64 S.fault, .int .i64 S.fuel] 29)).alloc (.cells #[.slice none 0 0, .slice none 0 0, .int .i32 0, .slice none 0 0, .slice none 0 0, .slice none 0 0, .slice none 0 0, .slice none 0 0, .int .i64 0, .int .i64 0] 29)) 21 [-1] (by simp); rw [HZ0.out] at h; exact h)
  clear hr hs hok hlt hdl hinp h16 hres hpr hT hT0 hTi hf
  go_enter Tryz.func43, Tryz.ntmps43
  go_wp2_with fail
  refine (HPUT.out _ _ (B0.out.alloc B0.out.size _) HV.out).mono ?_
  rintro e w1 ⟨v0, v1, v2, v3, v4, v5, v6, rfl, ho, hb1⟩
  have sz1 : w.heap.size + 2 ≤ w1.heap.size := by have := hb1.size; first | (rw [HZ0.out] at this; exact this) | (rw [World.size_alloc, HZ0.out] at this; omega)
  have hlo1 : w.heap.size + 2 ≤ (((w.alloc (.cells #[.slice A0 S.data.length a0, .slice A1 S.ret.length a1, .int .i32 S.a, .slice A2 S.mem.length a2, .slice A3 S.cells.length a3, .slice A4 S.vars.length a4, .slice A5 S.out.length a5, .slice A6 S.inp.length a6, .int .i64 S.fault, .int .i64 S.fuel] 29)).alloc (.cells #[.slice none 0 0, .slice none 0 0, .int .i32 0, .slice none 0 0, .slice none 0 0, .slice none 0 0, .slice none 0 0, .slice none 0 0, .int .i64 0, .int .i64 0] 29)).alloc (.cells #[.int .i32 (-1)] 21)).heap.size := by first | (rw [HZ0.out]; exact Nat.le_refl _) | (rw [World.size_alloc, HZ0.out]; omega)
  have HB1 : Hid (Below w.heap.size w w1) := Lib.hid ((B0.out.alloc B0.out.size (.cells #[.int .i32 (-1)] 21)).trans (hb1.mono (B0.out.alloc B0.out.size (.cells #[.int .i32 (-1)] 21)).size))
  have KR1 := Lib.hid ((KR.out.alloc (.cells #[.int .i32 (-1)] 21)).below hb1 (KR.out.alloc (.cells #[.int .i32 (-1)] 21)).lt)
  have HO1 := Lib.hid (ho.mono (l2 := w.heap.size + 2) (h2 := w1.heap.size) hlo1 (Nat.le_refl _))
  obtain ⟨⟨C0, c0, rfl⟩, ⟨C1, c1, rfl⟩, ⟨C2, c2, rfl⟩, ⟨C3, c3, rfl⟩, ⟨C4, c4, rfl⟩, ⟨C5, c5, rfl⟩, ⟨C6, c6, rfl⟩⟩ := ho.form (S := T) HT.out
  clear ho hb1 KP KR B0 HZ0 hlo1
  obtain ⟨r0, r1, r2, r3, r4, r5, r6, r7, r8, r9⟩ := st_cells KR1.out
  have lr : w.heap.size + 1 < w1.heap.size := KR1.out.lt
  have fr := KR1.out.frozen
  have f2 : (T.fault == 0) = true := by simp [HTF.out]
  have i2 : ¬ (0 : Int) < (T.inp.length : Int) := by rw [HTI.out, HINP.out]; decide
  go_upto_region 25 with (fail)
  have kr := KR1.out.alloc (.cells #[.slice C0 T.data.length c0, .slice C1 T.ret.length c1, .int .i32 T.a, .slice C2 T.mem.length c2, .slice C3 T.cells.length c3, .slice C4 T.vars.length c4, .slice C5 T.out.length c5, .slice C6 T.inp.length c6, .int .i64 T.fault, .int .i64 T.fuel] 29)
  have ko := Blk.new w1 29 #[.slice C0 T.data.length c0, .slice C1 T.ret.length c1, .int .i32 T.a, .slice C2 T.mem.length c2, .slice C3 T.cells.length c3, .slice C4 T.vars.length c4, .slice C5 T.out.length c5, .slice C6 T.inp.length c6, .int .i64 T.fault, .int .i64 T.fuel]
  have oz := HO1.out.alloc (.cells #[.slice C0 T.data.length c0, .slice C1 T.ret.length c1, .int .i32 T.a, .slice C2 T.mem.length c2, .slice C3 T.cells.length c3, .slice C4 T.vars.length c4, .slice C5 T.out.length c5, .slice C6 T.inp.length c6, .int .i64 T.fault, .int .i64 T.fuel] 29)
  have bz := HB1.out.alloc HB1.out.size (.cells #[.slice C0 T.data.length c0, .slice C1 T.ret.length c1, .int .i32 T.a, .slice C2 T.mem.length c2, .slice C3 T.cells.length c3, .slice C4 T.vars.length c4, .slice C5 T.out.length c5, .slice C6 T.inp.length c6, .int .i64 T.fault, .int .i64 T.fuel] 29)
  have hz := bz.size
  have hy : w1.heap.size ≤ (w1.alloc (.cells #[.slice C0 T.data.length c0, .slice C1 T.ret.length c1, .int .i32 T.a, .slice C2 T.mem.length c2, .slice C3 T.cells.length c3, .slice C4 T.vars.length c4, .slice C5 T.out.length c5, .slice C6 T.inp.length c6, .int .i64 T.fault, .int .i64 T.fuel] 29)).heap.size := by first | (simp only [World.size_alloc]; omega) | (simp only [World.size_setCell]; omega) | (simp only [World.size_alloc, World.size_setCell]; omega)
  generalize (w1.alloc (.cells #[.slice C0 T.data.length c0, .slice C1 T.ret.length c1, .int .i32 T.a, .slice C2 T.mem.length c2, .slice C3 T.cells.length c3, .slice C4 T.vars.length c4, .slice C5 T.out.length c5, .slice C6 T.inp.length c6, .int .i64 T.fault, .int .i64 T.fuel] 29)) = wz at kr ko oz bz hz hy ⊢
  obtain ⟨m0, m1, m2, m3, m4, m5, m6, m7, m8, m9⟩ := st_cells ko
  obtain ⟨n0_, n1_, n2_, n3_, n4_, n5_, n6_, n7_, n8_, n9_⟩ := st_cells kr
  have lz1 : w.heap.size + 1 < wz.heap.size := kr.lt
  have lz2 : w1.heap.size < wz.heap.size := ko.lt
  have fz1 := kr.frozen
  have fz2 := ko.frozen
  have KRZ := Lib.hid kr
  have OZ := Lib.hid oz
  have BZ := Lib.hid bz
  clear kr ko oz bz
  go_wp2_with fail
  have kr := KRZ.out
  show bodyPost _ _ _ _ _ (putSt wz (w.heap.size + 1) (.slice C0 T.data.length c0) (.slice C1 T.ret.length c1) (.int .i32 T.a) (.slice C2 T.mem.length c2) (.slice C3 T.cells.length c3) (.slice C4 T.vars.length c4) (.slice C5 T.out.length c5) (.slice C6 T.inp.length c6) (.int .i64 T.fault) (.int .i64 T.fuel))
  have y1 := putSt_blk kr (.slice C0 T.data.length c0) (.slice C1 T.ret.length c1) (.int .i32 T.a) (.slice C2 T.mem.length c2) (.slice C3 T.cells.length c3) (.slice C4 T.vars.length c4) (.slice C5 T.out.length c5) (.slice C6 T.inp.length c6) (.int .i64 T.fault) (.int .i64 T.fuel)
  have y2 := (BZ.out).grown (putSt_only wz (w.heap.size + 1) (.slice C0 T.data.length c0) (.slice C1 T.ret.length c1) (.int .i32 T.a) (.slice C2 T.mem.length c2) (.slice C3 T.cells.length c3) (.slice C4 T.vars.length c4) (.slice C5 T.out.length c5) (.slice C6 T.inp.length c6) (.int .i64 T.fault) (.int .i64 T.fuel)) (BZ.out).size (fun k hk => by injection hk with hk; omega)
  have y3 := OwnSt.setSt OZ.out (g := w.heap.size + 1) (.inl (by omega)) (.slice C0 T.data.length c0) (.slice C1 T.ret.length c1) (.int .i32 T.a) (.slice C2 T.mem.length c2) (.slice C3 T.cells.length c3) (.slice C4 T.vars.length c4) (.slice C5 T.out.length c5) (.slice C6 T.inp.length c6) (.int .i64 T.fault) (.int .i64 T.fuel)
  have y4 := putSt_size wz (w.heap.size + 1) (.slice C0 T.data.length c0) (.slice C1 T.ret.length c1) (.int .i32 T.a) (.slice C2 T.mem.length c2) (.slice C3 T.cells.length c3) (.slice C4 T.vars.length c4) (.slice C5 T.out.length c5) (.slice C6 T.inp.length c6) (.int .i64 T.fault) (.int .i64 T.fuel)
  generalize putSt wz (w.heap.size + 1) (.slice C0 T.data.length c0) (.slice C1 T.ret.length c1) (.int .i32 T.a) (.slice C2 T.mem.length c2) (.slice C3 T.cells.length c3) (.slice C4 T.vars.length c4) (.slice C5 T.out.length c5) (.slice C6 T.inp.length c6) (.int .i64 T.fault) (.int .i64 T.fuel) = W at y1 y2 y3 y4 ⊢
  obtain ⟨z0, z1, z2, z3, z4, z5, z6, z7, z8, z9⟩ := st_cells y1
  exact bodyPost_ret (v := .agg #[.slice C0 T.data.length c0, .slice C1 T.ret.length c1, .int .i32 T.a, .slice C2 T.mem.length c2, .slice C3 T.cells.length c3, .slice C4 T.vars.length c4, .slice C5 T.out.length c5, .slice C6 T.inp.length c6, .int .i64 T.fault, .int .i64 T.fuel]) (by simp [results, Tryz.results43, z0, z1, z2, z3, z4, z5, z6, z7, z8, z9, go_sem]) rfl (newst_of y3 (by omega) (by first | (rw [y4]; simp; done) | (rw [y4]; simp; omega) | omega) y2)
set_option maxRecDepth 100000 in
set_option maxHeartbeats 3000000 in
theorem key_some_full (d r m c v o i : Value) (S : S8) (x y : Int) (_hx0 : -2147483648 ≤ x) (_hx1 : x ≤ 2147483647) (_hy0 : -2147483648 ≤ y) (_hy1 : y ≤ 2147483647) (rest : List Nat) (b0 : Nat) (hinp : S.inp = b0 :: rest) (hb : b0 < 256) (h16 : S.data.length = 16) (hs : totSt S ≤ 2500000) (w : World) (hr : RdSt w d r m c v o i S) (hok : Ok8 S) :
    Calls Tryz.prog 43 #[.agg #[d, r, .int .i32 S.a, m, c, v, o, i, .int .i64 S.fault, .int .i64 S.fuel], .string ⟨#[107, 101, 121]⟩, .int .i32 x, .int .i32 y] w (NewSt w (fin8 S (prim8 18 S x y))) := by
  have hform := hr.form
  obtain ⟨⟨A0, a0, rfl⟩, ⟨A1, a1, rfl⟩, ⟨A2, a2, rfl⟩, ⟨A3, a3, rfl⟩, ⟨A4, a4, rfl⟩, ⟨A5, a5, rfl⟩, ⟨A6, a6, rfl⟩⟩ := hform
  have e1 : (w.alloc (.cells #[.slice A0 S.data.length a0, .slice A1 S.ret.length a1, .int .i32 S.a, .slice A2 S.mem.length a2, .slice A3 S.cells.length a3, .slice A4 S.vars.length a4, .slice A5 S.out.length a5, .slice A6 S.inp.length a6, .int .i64 S.fault, .int .i64 S.fuel] 29)).heap.size = w.heap.size + 1 := by simp
  have KP := Lib.hid (((Blk.new w 29 #[.slice A0 S.data.length a0, .slice A1 S.ret.length a1, .int .i32 S.a, .slice A2 S.mem.length a2, .slice A3 S.cells.length a3, .slice A4 S.vars.length a4, .slice A5 S.out.length a5, .slice A6 S.inp.length a6, .int .i64 S.fault, .int .i64 S.fuel]).alloc (.cells #[.slice none 0 0, .slice none 0 0, .int .i32 0, .slice none 0 0, .slice none 0 0, .slice none 0 0, .slice none 0 0, .slice none 0 0, .int .i64 0, .int .i64 0] 29)))
  have KR : Hid (Blk ((w.alloc (.cells #[.slice A0 S.data.length a0, .slice A1 S.ret.length a1, .int .i32 S.a, .slice A2 S.mem.length a2, .slice A3 S.cells.length a3, .slice A4 S.vars.length a4, .slice A5 S.out.length a5, .slice A6 S.inp.length a6, .int .i64 S.fault, .int .i64 S.fuel] 29)).alloc (.cells #[.slice none 0 0, .slice none 0 0, .int .i32 0, .slice none 0 0, .slice none 0 0, .slice none 0 0, .slice none 0 0, .slice none 0 0, .int .i64 0, .int .i64 0] 29)) (w.heap.size + 1) 29 #[.slice none 0 0, .slice none 0 0, .int .i32 0, .slice none 0 0, .slice none 0 0, .slice none 0 0, .slice none 0 0, .slice none 0 0, .int .i64 0, .int .i64 0]) := Lib.hid (by have := Blk.new (w.alloc (.cells #[.slice A0 S.data.length a0, .slice A1 S.ret.length a1, .int .i32 S.a, .slice A2 S.mem.length a2, .slice A3 S.cells.length a3, .slice A4 S.vars.length a4, .slice A5 S.out.length a5, .slice A6 S.inp.length a6, .int .i64 S.fault, .int .i64 S.fuel] 29)) 29 #[.slice none 0 0, .slice none 0 0, .int .i32 0, .slice none 0 0, .slice none 0 0, .slice none 0 0, .slice none 0 0, .slice none 0 0, .int .i64 0, .int .i64 0]; rw [e1] at this; exact this)
  have B0 : Hid (Below w.heap.size w ((w.alloc (.cells #[.slice A0 S.data.length a0, .slice A1 S.ret.length a1, .int .i32 S.a, .slice A2 S.mem.length a2, .slice A3 S.cells.length a3, .slice A4 S.vars.length a4, .slice A5 S.out.length a5, .slice A6 S.inp.length a6, .int .i64 S.fault, .int .i64 S.fuel] 29)).alloc (.cells #[.slice none 0 0, .slice none 0 0, .int .i32 0, .slice none 0 0, .slice none 0 0, .slice none 0 0, .slice none 0 0, .slice none 0 0, .int .i64 0, .int .i64 0] 29))) := Lib.hid (below_alloc2 w _ _)
  have Z0 : ((w.alloc (.cells #[.slice A0 S.data.length a0, .slice A1 S.ret.length a1, .int .i32 S.a, .slice A2 S.mem.length a2, .slice A3 S.cells.length a3, .slice A4 S.vars.length a4, .slice A5 S.out.length a5, .slice A6 S.inp.length a6, .int .i64 S.fault, .int .i64 S.fuel] 29)).alloc (.cells #[.slice none 0 0, .slice none 0 0, .int .i32 0, .slice none 0 0, .slice none 0 0, .slice none 0 0, .slice none 0 0, .slice none 0 0, .int .i64 0, .int .i64 0] 29)).heap.size = w.heap.size + 2 := by simp
  have HZ0 := Lib.hid Z0
  clear Z0 e1
  have hlt : 0 ≤ S.data.length := Nat.zero_le _
  have hdl := hok.data
  have HPUT := Lib.hid (fun lv W (h : Below w.heap.size w W) (hv : RdI W lv [(b0 : Int)]) => spec_put _ _ _ _ _ _ _ S 0 lv [(b0 : Int)] hlt (by simp) hdl (by omega) W (hr.below h) hv)
  have hpr : prim8 18 S x y = put8 { S with inp := rest } 0 [(b0 : Int)] := by unfold prim8; simp only [hinp]
  have hres : fin8 S (prim8 18 S x y) = { S with fault := 2 } := by
    rw [hpr]
    unfold put8
    rw [if_pos (by simp; omega)]
    rfl
  rw [show fin8 S (put8 S 0 [(b0 : Int)]) = { S with fault := 2 } by unfold put8; rw [if_pos (by simp; omega)]; rfl] at HPUT
  rw [hres]
  have HT : Hid (totSt { S with fault := 2 } ≤ 4000000) := Lib.hid (show totSt S ≤ 4000000 by omega)
  have hil : S.inp.length = rest.length + 1 := by rw [hinp]; rfl
  have hi100 := hok.inp
  obtain ⟨k, hk⟩ : ∃ k, rest.length = k := ⟨_, rfl⟩
  have HK := Lib.hid hk
  have hcell : ∃ ai, A6 = some ai ∧ ai.block < w.heap.size ∧ w.cell? (ai.add 0) = some (.int .u8 (b0 : Int)) := by
    obtain ⟨A, cp, e, -, hc⟩ := hr.i
    injection e with e1 e2 e3
    subst e1
    obtain ⟨a, h1, h2, h3⟩ := hc 0 (by omega)
    refine ⟨a, h1, h2, ?_⟩
    rw [h3]
    simp only [hinp, List.getElem_cons_zero]
    rfl
  obtain ⟨ai, hA6, lai, cai⟩ := hcell
  rw [show ai.add 0 = ai by simp [Addr.add]] at cai
  subst hA6
  have i1 : (0 : Int) < (S.inp.length : Int) := by omega
  have b1 : (b0 : Int) < 256 := by omega
  have b2 : (0 : Int) ≤ (b0 : Int) := by omega
  have HINP := Lib.hid hinp
  have HV : Hid (RdI (((w.alloc (.cells #[.slice A0 S.data.length a0, .slice A1 S.ret.length a1, .int .i32 S.a, .slice A2 S.mem.length a2, .slice A3 S.cells.length a3, .slice A4 S.vars.length a4, .slice A5 S.out.length a5, .slice (some ai) S.inp.length a6, .int .i64 S.fault, .int .i64 S.fuel] 29)).alloc (.cells #[.slice none 0 0, .slice none 0 0, .int .i32 0, .slice none 0 0, .slice none 0 0, .slice none 0 0, .slice none 0 0, .slice none 0 0, .int .i64 0, .int .i64 0] 29)).alloc (.cells #[.int .i32 ((b0 : Int))] 21)) (.slice (some ⟨w.heap.size + 1 + 1, 0, none⟩) 1 1) [(b0 : Int)]) := Lib.hid (by have h := rdI_new ((w.alloc (.cells #[.slice A0 S.data.length a0, .slice A1 S.ret.length a1, .int .i32 S.a, .slice A2 S.mem.length a2, .slice A3 S.cells.length a3, .slice A4 S.vars.length a4, .slice A5 S.out.length a5, .slice (some ai) S.inp.length a6, .int .i64 S.fault, .int .i64 S.fuel] 29)).alloc (.cells #[.slice none 0 0, .slice none 0 0, .int .i32 0, .slice none 0 0, .slice none 0 0, .slice none 0 0, .slice none 0 0, .slice none 0 0, .int .i64 0, .int .i64 0] 29)) 21 [(b0 : Int)] (by simp); rw [HZ0.out] at h; exact h)
  clear hr hs hok hlt hdl hinp h16 hres hpr hil hi100 hk hb
  go_enter Tryz.func43, Tryz.ntmps43
  go_wp2_with fail
  refine (HPUT.out _ _ (B0.out.alloc B0.out.size _) HV.out).mono ?_
  rintro e w1 ⟨v0, v1, v2, v3, v4, v5, v6, rfl, ho, hb1⟩
  have sz1 : w.heap.size + 2 ≤ w1.heap.size := by have := hb1.size; first | (rw [HZ0.out] at this; exact this) | (rw [World.size_alloc, HZ0.out] at this; omega)
  have hlo1 : w.heap.size + 2 ≤ (((w.alloc (.cells #[.slice A0 S.data.length a0, .slice A1 S.ret.length a1, .int .i32 S.a, .slice A2 S.mem.length a2, .slice A3 S.cells.length a3, .slice A4 S.vars.length a4, .slice A5 S.out.length a5, .slice (some ai) S.inp.length a6, .int .i64 S.fault, .int .i64 S.fuel] 29)).alloc (.cells #[.slice none 0 0, .slice none 0 0, .int .i32 0, .slice none 0 0, .slice none 0 0, .slice none 0 0, .slice none 0 0, .slice none 0 0, .int .i64 0, .int .i64 0] 29)).alloc (.cells #[.int .i32 ((b0 : Int))] 21)).heap.size := by first | (rw [HZ0.out]; exact Nat.le_refl _) | (rw [World.size_alloc, HZ0.out]; omega)
  have HB1 : Hid (Below w.heap.size w w1) := Lib.hid ((B0.out.alloc B0.out.size (.cells #[.int .i32 ((b0 : Int))] 21)).trans (hb1.mono (B0.out.alloc B0.out.size (.cells #[.int .i32 ((b0 : Int))] 21)).size))
  have KR1 := Lib.hid ((KR.out.alloc (.cells #[.int .i32 ((b0 : Int))] 21)).below hb1 (KR.out.alloc (.cells #[.int .i32 ((b0 : Int))] 21)).lt)
  have HO1 := Lib.hid (ho.mono (l2 := w.heap.size + 2) (h2 := w1.heap.size) hlo1 (Nat.le_refl _))
  obtain ⟨⟨C0, c0, rfl⟩, ⟨C1, c1, rfl⟩, ⟨C2, c2, rfl⟩, ⟨C3, c3, rfl⟩, ⟨C4, c4, rfl⟩, ⟨C5, c5, rfl⟩, ⟨C6, c6, rfl⟩⟩ := ho.form (S := { S with fault := 2 }) HT.out
  clear ho hb1 KP KR B0 HZ0 hlo1
  obtain ⟨r0, r1, r2, r3, r4, r5, r6, r7, r8, r9⟩ := st_cells KR1.out
  have lr : w.heap.size + 1 < w1.heap.size := KR1.out.lt
  have fr := KR1.out.frozen
  have f2 : ((2 : Int) == 0) = false := by decide
  go_upto_region 25 with (fail)
  have kr := KR1.out.alloc (.cells #[.slice C0 S.data.length c0, .slice C1 S.ret.length c1, .int .i32 S.a, .slice C2 S.mem.length c2, .slice C3 S.cells.length c3, .slice C4 S.vars.length c4, .slice C5 S.out.length c5, .slice C6 S.inp.length c6, .int .i64 2, .int .i64 S.fuel] 29)
  have ko := Blk.new w1 29 #[.slice C0 S.data.length c0, .slice C1 S.ret.length c1, .int .i32 S.a, .slice C2 S.mem.length c2, .slice C3 S.cells.length c3, .slice C4 S.vars.length c4, .slice C5 S.out.length c5, .slice C6 S.inp.length c6, .int .i64 2, .int .i64 S.fuel]
  have oz := HO1.out.alloc (.cells #[.slice C0 S.data.length c0, .slice C1 S.ret.length c1, .int .i32 S.a, .slice C2 S.mem.length c2, .slice C3 S.cells.length c3, .slice C4 S.vars.length c4, .slice C5 S.out.length c5, .slice C6 S.inp.length c6, .int .i64 2, .int .i64 S.fuel] 29)
  have bz := HB1.out.alloc HB1.out.size (.cells #[.slice C0 S.data.length c0, .slice C1 S.ret.length c1, .int .i32 S.a, .slice C2 S.mem.length c2, .slice C3 S.cells.length c3, .slice C4 S.vars.length c4, .slice C5 S.out.length c5, .slice C6 S.inp.length c6, .int .i64 2, .int .i64 S.fuel] 29)
  have hz := bz.size
  have hy : w1.heap.size ≤ (w1.alloc (.cells #[.slice C0 S.data.length c0, .slice C1 S.ret.length c1, .int .i32 S.a, .slice C2 S.mem.length c2, .slice C3 S.cells.length c3, .slice C4 S.vars.length c4, .slice C5 S.out.length c5, .slice C6 S.inp.length c6, .int .i64 2, .int .i64 S.fuel] 29)).heap.size := by first | (simp only [World.size_alloc]; omega) | (simp only [World.size_setCell]; omega) | (simp only [World.size_alloc, World.size_setCell]; omega)
  generalize (w1.alloc (.cells #[.slice C0 S.data.length c0, .slice C1 S.ret.length c1, .int .i32 S.a, .slice C2 S.mem.length c2, .slice C3 S.cells.length c3, .slice C4 S.vars.length c4, .slice C5 S.out.length c5, .slice C6 S.inp.length c6, .int .i64 2, .int .i64 S.fuel] 29)) = wz at kr ko oz bz hz hy ⊢
  obtain ⟨m0, m1, m2, m3, m4, m5, m6, m7, m8, m9⟩ := st_cells ko
  obtain ⟨n0_, n1_, n2_, n3_, n4_, n5_, n6_, n7_, n8_, n9_⟩ := st_cells kr
  have lz1 : w.heap.size + 1 < wz.heap.size := kr.lt
  have lz2 : w1.heap.size < wz.heap.size := ko.lt
  have fz1 := kr.frozen
  have fz2 := ko.frozen
  have KRZ := Lib.hid kr
  have OZ := Lib.hid oz
  have BZ := Lib.hid bz
  clear kr ko oz bz
  go_wp2_with fail
  have kr := KRZ.out
  show bodyPost _ _ _ _ _ (putSt wz (w.heap.size + 1) (.slice C0 S.data.length c0) (.slice C1 S.ret.length c1) (.int .i32 S.a) (.slice C2 S.mem.length c2) (.slice C3 S.cells.length c3) (.slice C4 S.vars.length c4) (.slice C5 S.out.length c5) (.slice C6 S.inp.length c6) (.int .i64 2) (.int .i64 S.fuel))
  have y1 := putSt_blk kr (.slice C0 S.data.length c0) (.slice C1 S.ret.length c1) (.int .i32 S.a) (.slice C2 S.mem.length c2) (.slice C3 S.cells.length c3) (.slice C4 S.vars.length c4) (.slice C5 S.out.length c5) (.slice C6 S.inp.length c6) (.int .i64 2) (.int .i64 S.fuel)
  have y2 := (BZ.out).grown (putSt_only wz (w.heap.size + 1) (.slice C0 S.data.length c0) (.slice C1 S.ret.length c1) (.int .i32 S.a) (.slice C2 S.mem.length c2) (.slice C3 S.cells.length c3) (.slice C4 S.vars.length c4) (.slice C5 S.out.length c5) (.slice C6 S.inp.length c6) (.int .i64 2) (.int .i64 S.fuel)) (BZ.out).size (fun k hk => by injection hk with hk; omega)
  have y3 := OwnSt.setSt OZ.out (g := w.heap.size + 1) (.inl (by omega)) (.slice C0 S.data.length c0) (.slice C1 S.ret.length c1) (.int .i32 S.a) (.slice C2 S.mem.length c2) (.slice C3 S.cells.length c3) (.slice C4 S.vars.length c4) (.slice C5 S.out.length c5) (.slice C6 S.inp.length c6) (.int .i64 2) (.int .i64 S.fuel)
  have y4 := putSt_size wz (w.heap.size + 1) (.slice C0 S.data.length c0) (.slice C1 S.ret.length c1) (.int .i32 S.a) (.slice C2 S.mem.length c2) (.slice C3 S.cells.length c3) (.slice C4 S.vars.length c4) (.slice C5 S.out.length c5) (.slice C6 S.inp.length c6) (.int .i64 2) (.int .i64 S.fuel)
  generalize putSt wz (w.heap.size + 1) (.slice C0 S.data.length c0) (.slice C1 S.ret.length c1) (.int .i32 S.a) (.slice C2 S.mem.length c2) (.slice C3 S.cells.length c3) (.slice C4 S.vars.length c4) (.slice C5 S.out.length c5) (.slice C6 S.inp.length c6) (.int .i64 2) (.int .i64 S.fuel) = W at y1 y2 y3 y4 ⊢
  obtain ⟨z0, z1, z2, z3, z4, z5, z6, z7, z8, z9⟩ := st_cells y1
  exact bodyPost_ret (v := .agg #[.slice C0 S.data.length c0, .slice C1 S.ret.length c1, .int .i32 S.a, .slice C2 S.mem.length c2, .slice C3 S.cells.length c3, .slice C4 S.vars.length c4, .slice C5 S.out.length c5, .slice C6 S.inp.length c6, .int .i64 2, .int .i64 S.fuel]) (by simp [results, Tryz.results43, z0, z1, z2, z3, z4, z5, z6, z7, z8, z9, go_sem]) rfl (newst_of y3 (by omega) (by first | (rw [y4]; simp; done) | (rw [y4]; simp; omega) | omega) y2)
end Go.Proofs.YtdiaiflleiebfaaGreatDoor
