/-
  spec.l08Store: !, but of a variable.
-/
import Derived.Test.YtdiaiflleiebfaaGreatDoorDO14
import Derived.Test.YtdiaiflleiebfaaGreatDoorDO19
import Derived.Test.YtdiaiflleiebfaaGreatDoorDO22
namespace Go.Proofs.YtdiaiflleiebfaaGreatDoor
open Go.RowKit Go

set_option maxRecDepth 100000 in
set_option maxHeartbeats 3000000 in
theorem store_mem_s (d r m c v o i : Value) (S : S8) (x : Int) (j : Nat) (hj : j ≤ 31) (hs : totSt S ≤ 2500000) (w : World) (hr : RdSt w d r m c v o i S) (ht2 : 2 ≤ S.data.length) (hdl : S.data.length ≤ 16) (hm : S.mem.length = 32) :
    Calls Tryz.prog 106 #[.agg #[d, r, .int .i32 S.a, m, c, v, o, i, .int .i64 S.fault, .int .i64 S.fuel], .int .i32 x, .int .i32 ((j : Int))] w (NewSt w { drop8 S 2 with mem := S.mem.set j x }) := by
  have hform := hr.form
  obtain ⟨⟨A0, a0, rfl⟩, ⟨A1, a1, rfl⟩, ⟨A2, a2, rfl⟩, ⟨A3, a3, rfl⟩, ⟨A4, a4, rfl⟩, ⟨A5, a5, rfl⟩, ⟨A6, a6, rfl⟩⟩ := hform
  have e1 : (w.alloc (.cells #[.slice A0 S.data.length a0, .slice A1 S.ret.length a1, .int .i32 S.a, .slice A2 S.mem.length a2, .slice A3 S.cells.length a3, .slice A4 S.vars.length a4, .slice A5 S.out.length a5, .slice A6 S.inp.length a6, .int .i64 S.fault, .int .i64 S.fuel] 29)).heap.size = w.heap.size + 1 := by simp
  have KP := Lib.hid (((Blk.new w 29 #[.slice A0 S.data.length a0, .slice A1 S.ret.length a1, .int .i32 S.a, .slice A2 S.mem.length a2, .slice A3 S.cells.length a3, .slice A4 S.vars.length a4, .slice A5 S.out.length a5, .slice A6 S.inp.length a6, .int .i64 S.fault, .int .i64 S.fuel]).alloc (.cells #[.slice none 0 0, .slice none 0 0, .int .i32 0, .slice none 0 0, .slice none 0 0, .slice none 0 0, .slice none 0 0, .slice none 0 0, .int .i64 0, .int .i64 0] 29)))
  have KR : Hid (Blk ((w.alloc (.cells #[.slice A0 S.data.length a0, .slice A1 S.ret.length a1, .int .i32 S.a, .slice A2 S.mem.length a2, .slice A3 S.cells.length a3, .slice A4 S.vars.length a4, .slice A5 S.out.length a5, .slice A6 S.inp.length a6, .int .i64 S.fault, .int .i64 S.fuel] 29)).alloc (.cells #[.slice none 0 0, .slice none 0 0, .int .i32 0, .slice none 0 0, .slice none 0 0, .slice none 0 0, .slice none 0 0, .slice none 0 0, .int .i64 0, .int .i64 0] 29)) (w.heap.size + 1) 29 #[.slice none 0 0, .slice none 0 0, .int .i32 0, .slice none 0 0, .slice none 0 0, .slice none 0 0, .slice none 0 0, .slice none 0 0, .int .i64 0, .int .i64 0]) := Lib.hid (by have := Blk.new (w.alloc (.cells #[.slice A0 S.data.length a0, .slice A1 S.ret.length a1, .int .i32 S.a, .slice A2 S.mem.length a2, .slice A3 S.cells.length a3, .slice A4 S.vars.length a4, .slice A5 S.out.length a5, .slice A6 S.inp.length a6, .int .i64 S.fault, .int .i64 S.fuel] 29)) 29 #[.slice none 0 0, .slice none 0 0, .int .i32 0, .slice none 0 0, .slice none 0 0, .slice none 0 0, .slice none 0 0, .slice none 0 0, .int .i64 0, .int .i64 0]; rw [e1] at this; exact this)
  have B0 : Hid (Below w.heap.size w ((w.alloc (.cells #[.slice A0 S.data.length a0, .slice A1 S.ret.length a1, .int .i32 S.a, .slice A2 S.mem.length a2, .slice A3 S.cells.length a3, .slice A4 S.vars.length a4, .slice A5 S.out.length a5, .slice A6 S.inp.length a6, .int .i64 S.fault, .int .i64 S.fuel] 29)).alloc (.cells #[.slice none 0 0, .slice none 0 0, .int .i32 0, .slice none 0 0, .slice none 0 0, .slice none 0 0, .slice none 0 0, .slice none 0 0, .int .i64 0, .int .i64 0] 29))) := Lib.hid (below_alloc2 w _ _)
  have Z0 : ((w.alloc (.cells #[.slice A0 S.data.length a0, .slice A1 S.ret.length a1, .int .i32 S.a, .slice A2 S.mem.length a2, .slice A3 S.cells.length a3, .slice A4 S.vars.length a4, .slice A5 S.out.length a5, .slice A6 S.inp.length a6, .int .i64 S.fault, .int .i64 S.fuel] 29)).alloc (.cells #[.slice none 0 0, .slice none 0 0, .int .i32 0, .slice none 0 0, .slice none 0 0, .slice none 0 0, .slice none 0 0, .slice none 0 0, .int .i64 0, .int .i64 0] 29)).heap.size = w.heap.size + 2 := by simp
  have HZ0 := Lib.hid Z0
  clear Z0 e1
  have HPL := Lib.hid (fun W (h : Below w.heap.size w W) => place_mem _ _ _ _ _ _ _ S j hj W (hr.below h))
  have hlt := ht2
  have HPUT := Lib.hid (fun lv W (h : Below w.heap.size w W) (hv : RdI W lv []) => spec_put _ _ _ _ _ _ _ S 2 lv [] hlt (by simp) hdl (by omega) W (hr.below h) hv)
  obtain ⟨T, hT0⟩ : ∃ T, drop8 S 2 = T := ⟨_, rfl⟩
  have hT : fin8 S (put8 S 2 []) = T := by
    rw [← hT0]
    unfold put8 drop8
    rw [if_neg (by simp; omega), List.append_nil]
    rfl
  have HT : Hid (totSt T ≤ 4000000) := Lib.hid (by rw [← hT]; exact put8_tot hs)
  have hTm : T.mem = S.mem := by rw [← hT0]; rfl
  have hTc : T.cells = S.cells := by rw [← hT0]; rfl
  rw [hT] at HPUT
  have hres : ({ drop8 S 2 with mem := S.mem.set j x } : S8) = { T with mem := T.mem.set j x } := by rw [hT0, hTm]
  rw [hres]
  have HIN := Lib.hid (fun W => in_any (j : Int) 0 31 W)
  rw [inB_true (by omega) (by omega)] at HIN
  have j1 : (0 : Int) ≤ (j : Int) := by omega
  have j4 : (j : Int) < (T.mem.length : Int) := by rw [hTm, hm]; omega
  have HJ : Hid (j < T.mem.length) := Lib.hid (by omega)
  clear hr hs hlt hT hT0 hj hm ht2 hdl hTm hTc hres
  go_enter Tryz.func106, Tryz.ntmps106
  go_wp2_with fail
  refine (HPL.out _ B0.out).mono ?_
  rintro e w1 ⟨rfl, hb1⟩
  have sz1 : w.heap.size + 2 ≤ w1.heap.size := by have := hb1.size; rw [HZ0.out] at this; exact this
  have HB1 : Hid (Below w.heap.size w w1) := Lib.hid (B0.out.trans (hb1.mono B0.out.size))
  have KP1 := Lib.hid (KP.out.below hb1 KP.out.lt)
  have KR1 := Lib.hid (KR.out.below hb1 KR.out.lt)
  clear hb1 KP KR B0 HZ0
  obtain ⟨p0, p1, p2, p3, p4, p5, p6, p7, p8, p9⟩ := st_cells KP1.out
  obtain ⟨r0, r1, r2, r3, r4, r5, r6, r7, r8, r9⟩ := st_cells KR1.out
  have lp : w.heap.size < w1.heap.size := KP1.out.lt
  have lr : w.heap.size + 1 < w1.heap.size := KR1.out.lt
  have fp := KP1.out.frozen
  have fr := KR1.out.frozen
  go_wp2_with fail
  refine (HPUT.out _ _ (HB1.out.alloc HB1.out.size _) (rdI_new w1 21 [] (by simp))).mono ?_
  rintro e w2 ⟨v0, v1, v2, v3, v4, v5, v6, rfl, ho, hb2⟩
  have sz2 : w.heap.size + 2 ≤ w2.heap.size := by have := hb2.size; first | omega | (rw [World.size_alloc] at this; omega)
  have HB2 : Hid (Below w.heap.size w w2) := Lib.hid ((HB1.out.alloc HB1.out.size (.cells #[] 21)).trans (hb2.mono (HB1.out.alloc HB1.out.size (.cells #[] 21)).size))
  have KR2 := Lib.hid ((KR1.out.alloc (.cells #[] 21)).below hb2 (KR1.out.alloc (.cells #[] 21)).lt)
  have HO2 := Lib.hid (ho.mono (l2 := w.heap.size + 2) (h2 := w2.heap.size) (by first | omega | (rw [World.size_alloc]; omega)) (Nat.le_refl _))
  obtain ⟨⟨C0, c0, rfl⟩, ⟨C1, c1, rfl⟩, ⟨C2, c2, rfl⟩, ⟨C3, c3, rfl⟩, ⟨C4, c4, rfl⟩, ⟨C5, c5, rfl⟩, ⟨C6, c6, rfl⟩⟩ := ho.form (S := T) HT.out
  clear ho hb2 p0 p1 p2 p3 p4 p5 p6 p7 p8 p9 r0 r1 r2 r3 r4 r5 r6 r7 r8 r9 lp lr fp fr KP1 KR1 HB1
  obtain ⟨r0, r1, r2, r3, r4, r5, r6, r7, r8, r9⟩ := st_cells KR2.out
  have lr : w.heap.size + 1 < w2.heap.size := KR2.out.lt
  have fr := KR2.out.frozen
  obtain ⟨qm, cm, hM, hcm, hqm, hmc⟩ := own_cell HO2.out.m (i := j) HJ.out
  have hfm := own_frozen HO2.out.m hM j
  have hmc2 : ∃ u, w2.cell? ⟨qm, j, none⟩ = some u := ⟨_, hmc.trans (List.getElem?_eq_getElem (by rw [List.length_map]; exact HJ.out))⟩
  obtain ⟨u, hmc3⟩ := hmc2
  have hql : w.heap.size + 2 ≤ qm ∧ qm < w2.heap.size := ⟨own_lt HO2.out.m qm (by rw [hM]; rfl), HO2.out.top (.slice C2 T.mem.length c2) (by simp) qm (by rw [hM]; rfl)⟩
  have hne1 : w.heap.size + 1 ≠ qm := by omega
  have HM := Lib.hid hM
  injection hM with hM1 hM2 hM3
  subst hM1
  clear hmc hM2 hM3
  go_wp2_with fail
  refine (HIN.out _).mono ?_
  rintro e w3 ⟨rfl, rfl⟩
  go_upto_region 5 with (fail)
  have kr := (KR2.out.far (p := ⟨qm, j, none⟩) hne1 (.int .i32 x)).alloc (.cells #[.slice C0 T.data.length c0, .slice C1 T.ret.length c1, .int .i32 T.a, .slice (some ⟨qm, 0, none⟩) T.mem.length c2, .slice C3 T.cells.length c3, .slice C4 T.vars.length c4, .slice C5 T.out.length c5, .slice C6 T.inp.length c6, .int .i64 T.fault, .int .i64 T.fuel] 29)
  have ko := (by have h := Blk.new (w2.setCell ⟨qm, j, none⟩ (.int .i32 x)) 29 #[.slice C0 T.data.length c0, .slice C1 T.ret.length c1, .int .i32 T.a, .slice (some ⟨qm, 0, none⟩) T.mem.length c2, .slice C3 T.cells.length c3, .slice C4 T.vars.length c4, .slice C5 T.out.length c5, .slice C6 T.inp.length c6, .int .i64 T.fault, .int .i64 T.fuel]; rw [World.size_setCell] at h; exact h)
  have oz := (HO2.out.setMem HM.out j x).alloc (.cells #[.slice C0 T.data.length c0, .slice C1 T.ret.length c1, .int .i32 T.a, .slice (some ⟨qm, 0, none⟩) T.mem.length c2, .slice C3 T.cells.length c3, .slice C4 T.vars.length c4, .slice C5 T.out.length c5, .slice C6 T.inp.length c6, .int .i64 T.fault, .int .i64 T.fuel] 29)
  have bz := (HB2.out.setCell (p := ⟨qm, j, none⟩) (show w.heap.size ≤ qm by omega) (.int .i32 x)).alloc (HB2.out.setCell (p := ⟨qm, j, none⟩) (show w.heap.size ≤ qm by omega) (.int .i32 x)).size (.cells #[.slice C0 T.data.length c0, .slice C1 T.ret.length c1, .int .i32 T.a, .slice (some ⟨qm, 0, none⟩) T.mem.length c2, .slice C3 T.cells.length c3, .slice C4 T.vars.length c4, .slice C5 T.out.length c5, .slice C6 T.inp.length c6, .int .i64 T.fault, .int .i64 T.fuel] 29)
  have hz := bz.size
  have hy : w2.heap.size ≤ ((w2.setCell ⟨qm, j, none⟩ (.int .i32 x)).alloc (.cells #[.slice C0 T.data.length c0, .slice C1 T.ret.length c1, .int .i32 T.a, .slice (some ⟨qm, 0, none⟩) T.mem.length c2, .slice C3 T.cells.length c3, .slice C4 T.vars.length c4, .slice C5 T.out.length c5, .slice C6 T.inp.length c6, .int .i64 T.fault, .int .i64 T.fuel] 29)).heap.size := by first | (simp only [World.size_alloc]; omega) | (simp only [World.size_setCell]; omega) | (simp only [World.size_alloc, World.size_setCell]; omega)
  generalize ((w2.setCell ⟨qm, j, none⟩ (.int .i32 x)).alloc (.cells #[.slice C0 T.data.length c0, .slice C1 T.ret.length c1, .int .i32 T.a, .slice (some ⟨qm, 0, none⟩) T.mem.length c2, .slice C3 T.cells.length c3, .slice C4 T.vars.length c4, .slice C5 T.out.length c5, .slice C6 T.inp.length c6, .int .i64 T.fault, .int .i64 T.fuel] 29)) = wz at kr ko oz bz hz hy ⊢
  obtain ⟨m0, m1, m2, m3, m4, m5, m6, m7, m8, m9⟩ := st_cells ko
  obtain ⟨n0_, n1_, n2_, n3_, n4_, n5_, n6_, n7_, n8_, n9_⟩ := st_cells kr
  have lz1 : w.heap.size + 1 < wz.heap.size := kr.lt
  have lz2 : w2.heap.size < wz.heap.size := ko.lt
  have fz1 := kr.frozen
  have fz2 := ko.frozen
  have KRZ := Lib.hid kr
  have OZ := Lib.hid oz
  have BZ := Lib.hid bz
  clear kr ko oz bz
  go_wp2_with fail
  have kr := KRZ.out
  show bodyPost _ _ _ _ _ (putSt wz (w.heap.size + 1) (.slice C0 T.data.length c0) (.slice C1 T.ret.length c1) (.int .i32 T.a) (.slice (some ⟨qm, 0, none⟩) T.mem.length c2) (.slice C3 T.cells.length c3) (.slice C4 T.vars.length c4) (.slice C5 T.out.length c5) (.slice C6 T.inp.length c6) (.int .i64 T.fault) (.int .i64 T.fuel))
  have y1 := putSt_blk kr (.slice C0 T.data.length c0) (.slice C1 T.ret.length c1) (.int .i32 T.a) (.slice (some ⟨qm, 0, none⟩) T.mem.length c2) (.slice C3 T.cells.length c3) (.slice C4 T.vars.length c4) (.slice C5 T.out.length c5) (.slice C6 T.inp.length c6) (.int .i64 T.fault) (.int .i64 T.fuel)
  have y2 := (BZ.out).grown (putSt_only wz (w.heap.size + 1) (.slice C0 T.data.length c0) (.slice C1 T.ret.length c1) (.int .i32 T.a) (.slice (some ⟨qm, 0, none⟩) T.mem.length c2) (.slice C3 T.cells.length c3) (.slice C4 T.vars.length c4) (.slice C5 T.out.length c5) (.slice C6 T.inp.length c6) (.int .i64 T.fault) (.int .i64 T.fuel)) (BZ.out).size (fun k hk => by injection hk with hk; omega)
  have y3 := OwnSt.setSt OZ.out (g := w.heap.size + 1) (.inl (by omega)) (.slice C0 T.data.length c0) (.slice C1 T.ret.length c1) (.int .i32 T.a) (.slice (some ⟨qm, 0, none⟩) T.mem.length c2) (.slice C3 T.cells.length c3) (.slice C4 T.vars.length c4) (.slice C5 T.out.length c5) (.slice C6 T.inp.length c6) (.int .i64 T.fault) (.int .i64 T.fuel)
  have y4 := putSt_size wz (w.heap.size + 1) (.slice C0 T.data.length c0) (.slice C1 T.ret.length c1) (.int .i32 T.a) (.slice (some ⟨qm, 0, none⟩) T.mem.length c2) (.slice C3 T.cells.length c3) (.slice C4 T.vars.length c4) (.slice C5 T.out.length c5) (.slice C6 T.inp.length c6) (.int .i64 T.fault) (.int .i64 T.fuel)
  generalize putSt wz (w.heap.size + 1) (.slice C0 T.data.length c0) (.slice C1 T.ret.length c1) (.int .i32 T.a) (.slice (some ⟨qm, 0, none⟩) T.mem.length c2) (.slice C3 T.cells.length c3) (.slice C4 T.vars.length c4) (.slice C5 T.out.length c5) (.slice C6 T.inp.length c6) (.int .i64 T.fault) (.int .i64 T.fuel) = W at y1 y2 y3 y4 ⊢
  obtain ⟨z0, z1, z2, z3, z4, z5, z6, z7, z8, z9⟩ := st_cells y1
  exact bodyPost_ret (v := .agg #[.slice C0 T.data.length c0, .slice C1 T.ret.length c1, .int .i32 T.a, .slice (some ⟨qm, 0, none⟩) T.mem.length c2, .slice C3 T.cells.length c3, .slice C4 T.vars.length c4, .slice C5 T.out.length c5, .slice C6 T.inp.length c6, .int .i64 T.fault, .int .i64 T.fuel]) (by simp [results, Tryz.results106, z0, z1, z2, z3, z4, z5, z6, z7, z8, z9, go_sem]) rfl (newst_of y3 (by omega) (by first | (rw [y4]; simp; done) | (rw [y4]; simp; omega) | omega) y2)
set_option maxRecDepth 100000 in
set_option maxHeartbeats 3000000 in
theorem store_none_s (d r m c v o i : Value) (S : S8) (x y : Int) (hy0 : -2147483648 ≤ y) (hy1 : y ≤ 2147483647) (h0 : ¬ ((0 : Int) ≤ y ∧ y ≤ 31)) (h1 : ¬ ((1024 : Int) ≤ y ∧ y < 1024 + (S.cells.length : Int))) (hc : S.cells.length ≤ 2000) (hv20 : S.vars.length ≤ 20) (hs : totSt S ≤ 2500000) (w : World) (hr : RdSt w d r m c v o i S) (ht2 : 2 ≤ S.data.length) (hdl : S.data.length ≤ 16) :
    Calls Tryz.prog 106 #[.agg #[d, r, .int .i32 S.a, m, c, v, o, i, .int .i64 S.fault, .int .i64 S.fuel], .int .i32 x, .int .i32 (y)] w (NewSt w { S with fault := 4 }) := by
  have hform := hr.form
  obtain ⟨⟨A0, a0, rfl⟩, ⟨A1, a1, rfl⟩, ⟨A2, a2, rfl⟩, ⟨A3, a3, rfl⟩, ⟨A4, a4, rfl⟩, ⟨A5, a5, rfl⟩, ⟨A6, a6, rfl⟩⟩ := hform
  have e1 : (w.alloc (.cells #[.slice A0 S.data.length a0, .slice A1 S.ret.length a1, .int .i32 S.a, .slice A2 S.mem.length a2, .slice A3 S.cells.length a3, .slice A4 S.vars.length a4, .slice A5 S.out.length a5, .slice A6 S.inp.length a6, .int .i64 S.fault, .int .i64 S.fuel] 29)).heap.size = w.heap.size + 1 := by simp
  have KP := Lib.hid (((Blk.new w 29 #[.slice A0 S.data.length a0, .slice A1 S.ret.length a1, .int .i32 S.a, .slice A2 S.mem.length a2, .slice A3 S.cells.length a3, .slice A4 S.vars.length a4, .slice A5 S.out.length a5, .slice A6 S.inp.length a6, .int .i64 S.fault, .int .i64 S.fuel]).alloc (.cells #[.slice none 0 0, .slice none 0 0, .int .i32 0, .slice none 0 0, .slice none 0 0, .slice none 0 0, .slice none 0 0, .slice none 0 0, .int .i64 0, .int .i64 0] 29)))
  have KR : Hid (Blk ((w.alloc (.cells #[.slice A0 S.data.length a0, .slice A1 S.ret.length a1, .int .i32 S.a, .slice A2 S.mem.length a2, .slice A3 S.cells.length a3, .slice A4 S.vars.length a4, .slice A5 S.out.length a5, .slice A6 S.inp.length a6, .int .i64 S.fault, .int .i64 S.fuel] 29)).alloc (.cells #[.slice none 0 0, .slice none 0 0, .int .i32 0, .slice none 0 0, .slice none 0 0, .slice none 0 0, .slice none 0 0, .slice none 0 0, .int .i64 0, .int .i64 0] 29)) (w.heap.size + 1) 29 #[.slice none 0 0, .slice none 0 0, .int .i32 0, .slice none 0 0, .slice none 0 0, .slice none 0 0, .slice none 0 0, .slice none 0 0, .int .i64 0, .int .i64 0]) := Lib.hid (by have := Blk.new (w.alloc (.cells #[.slice A0 S.data.length a0, .slice A1 S.ret.length a1, .int .i32 S.a, .slice A2 S.mem.length a2, .slice A3 S.cells.length a3, .slice A4 S.vars.length a4, .slice A5 S.out.length a5, .slice A6 S.inp.length a6, .int .i64 S.fault, .int .i64 S.fuel] 29)) 29 #[.slice none 0 0, .slice none 0 0, .int .i32 0, .slice none 0 0, .slice none 0 0, .slice none 0 0, .slice none 0 0, .slice none 0 0, .int .i64 0, .int .i64 0]; rw [e1] at this; exact this)
  have B0 : Hid (Below w.heap.size w ((w.alloc (.cells #[.slice A0 S.data.length a0, .slice A1 S.ret.length a1, .int .i32 S.a, .slice A2 S.mem.length a2, .slice A3 S.cells.length a3, .slice A4 S.vars.length a4, .slice A5 S.out.length a5, .slice A6 S.inp.length a6, .int .i64 S.fault, .int .i64 S.fuel] 29)).alloc (.cells #[.slice none 0 0, .slice none 0 0, .int .i32 0, .slice none 0 0, .slice none 0 0, .slice none 0 0, .slice none 0 0, .slice none 0 0, .int .i64 0, .int .i64 0] 29))) := Lib.hid (below_alloc2 w _ _)
  have Z0 : ((w.alloc (.cells #[.slice A0 S.data.length a0, .slice A1 S.ret.length a1, .int .i32 S.a, .slice A2 S.mem.length a2, .slice A3 S.cells.length a3, .slice A4 S.vars.length a4, .slice A5 S.out.length a5, .slice A6 S.inp.length a6, .int .i64 S.fault, .int .i64 S.fuel] 29)).alloc (.cells #[.slice none 0 0, .slice none 0 0, .int .i32 0, .slice none 0 0, .slice none 0 0, .slice none 0 0, .slice none 0 0, .slice none 0 0, .int .i64 0, .int .i64 0] 29)).heap.size = w.heap.size + 2 := by simp
  have HZ0 := Lib.hid Z0
  clear Z0 e1
  have HPL := Lib.hid (fun W (h : Below w.heap.size w W) => place_none _ _ _ _ _ _ _ S y hy0 hy1 h0 h1 hc W (hr.below h))
  have hlt := ht2
  have HPUT := Lib.hid (fun lv W (h : Below w.heap.size w W) (hv : RdI W lv []) => spec_put _ _ _ _ _ _ _ S 2 lv [] hlt (by simp) hdl (by omega) W (hr.below h) hv)
  obtain ⟨T, hT0⟩ : ∃ T, drop8 S 2 = T := ⟨_, rfl⟩
  have hT : fin8 S (put8 S 2 []) = T := by
    rw [← hT0]
    unfold put8 drop8
    rw [if_neg (by simp; omega), List.append_nil]
    rfl
  have HT : Hid (totSt T ≤ 4000000) := Lib.hid (by rw [← hT]; exact put8_tot hs)
  have hTm : T.mem = S.mem := by rw [← hT0]; rfl
  have hTc : T.cells = S.cells := by rw [← hT0]; rfl
  rw [hT] at HPUT
  have HTS : Hid (totSt S ≤ 4000000) := Lib.hid (by omega)
  have HF := Lib.hid (fun W (h : Below w.heap.size w W) => spec_fault _ _ _ _ _ _ _ S 4 HTS.out W (hr.below h))
  have HTF : Hid (totSt { S with fault := 4 } ≤ 4000000) := Lib.hid HTS.out
  have HIN := Lib.hid (fun W => in_any (-1) 0 31 W)
  rw [inB_false (by omega)] at HIN
  have hN20 : S.vars.length ≤ 20 := hv20
  have hm1 : decide ((0 : Int) ≤ -1) = false := by decide
  have hm2 : ¬ (0 : Int) ≤ -1 := by decide
  clear hr hs hlt hT hT0 ht2 hdl hTm hTc h0 h1 hc hv20
  go_enter Tryz.func106, Tryz.ntmps106
  go_wp2_with fail
  refine (HPL.out _ B0.out).mono ?_
  rintro e w1 ⟨rfl, hb1⟩
  have sz1 : w.heap.size + 2 ≤ w1.heap.size := by have := hb1.size; rw [HZ0.out] at this; exact this
  have HB1 : Hid (Below w.heap.size w w1) := Lib.hid (B0.out.trans (hb1.mono B0.out.size))
  have KP1 := Lib.hid (KP.out.below hb1 KP.out.lt)
  have KR1 := Lib.hid (KR.out.below hb1 KR.out.lt)
  clear hb1 KP KR B0 HZ0
  obtain ⟨p0, p1, p2, p3, p4, p5, p6, p7, p8, p9⟩ := st_cells KP1.out
  obtain ⟨r0, r1, r2, r3, r4, r5, r6, r7, r8, r9⟩ := st_cells KR1.out
  have lp : w.heap.size < w1.heap.size := KP1.out.lt
  have lr : w.heap.size + 1 < w1.heap.size := KR1.out.lt
  have fp := KP1.out.frozen
  have fr := KR1.out.frozen
  have KP2a := KP1
  go_wp2_with fail
  refine (HPUT.out _ _ (HB1.out.alloc HB1.out.size _) (rdI_new w1 21 [] (by simp))).mono ?_
  rintro e w2 ⟨v0, v1, v2, v3, v4, v5, v6, rfl, ho, hb2⟩
  have sz2 : w.heap.size + 2 ≤ w2.heap.size := by have := hb2.size; first | omega | (rw [World.size_alloc] at this; omega)
  have HB2 : Hid (Below w.heap.size w w2) := Lib.hid ((HB1.out.alloc HB1.out.size (.cells #[] 21)).trans (hb2.mono (HB1.out.alloc HB1.out.size (.cells #[] 21)).size))
  have KP2 := Lib.hid ((KP1.out.alloc (.cells #[] 21)).below hb2 (KP1.out.alloc (.cells #[] 21)).lt)
  have KR2 := Lib.hid ((KR1.out.alloc (.cells #[] 21)).below hb2 (KR1.out.alloc (.cells #[] 21)).lt)
  have HO2 := Lib.hid (ho.mono (l2 := w.heap.size + 2) (h2 := w2.heap.size) (by first | omega | (rw [World.size_alloc]; omega)) (Nat.le_refl _))
  obtain ⟨⟨C0, c0, rfl⟩, ⟨C1, c1, rfl⟩, ⟨C2, c2, rfl⟩, ⟨C3, c3, rfl⟩, ⟨C4, c4, rfl⟩, ⟨C5, c5, rfl⟩, ⟨C6, c6, rfl⟩⟩ := ho.form (S := T) HT.out
  clear ho hb2 p0 p1 p2 p3 p4 p5 p6 p7 p8 p9 r0 r1 r2 r3 r4 r5 r6 r7 r8 r9 lp lr fp fr KP1 KP2a KR1 HB1
  obtain ⟨r0, r1, r2, r3, r4, r5, r6, r7, r8, r9⟩ := st_cells KR2.out
  have lr : w.heap.size + 1 < w2.heap.size := KR2.out.lt
  have fr := KR2.out.frozen
  have HOA := Lib.hid (HO2.out.alloc (.cells #[.slice C0 T.data.length c0, .slice C1 T.ret.length c1, .int .i32 T.a, .slice C2 T.mem.length c2, .slice C3 T.cells.length c3, .slice C4 T.vars.length c4, .slice C5 T.out.length c5, .slice C6 T.inp.length c6, .int .i64 T.fault, .int .i64 T.fuel] 29))
  have KRA := Lib.hid (KR2.out.alloc (.cells #[.slice C0 T.data.length c0, .slice C1 T.ret.length c1, .int .i32 T.a, .slice C2 T.mem.length c2, .slice C3 T.cells.length c3, .slice C4 T.vars.length c4, .slice C5 T.out.length c5, .slice C6 T.inp.length c6, .int .i64 T.fault, .int .i64 T.fuel] 29))
  have KOA := Lib.hid (Blk.new w2 29 #[.slice C0 T.data.length c0, .slice C1 T.ret.length c1, .int .i32 T.a, .slice C2 T.mem.length c2, .slice C3 T.cells.length c3, .slice C4 T.vars.length c4, .slice C5 T.out.length c5, .slice C6 T.inp.length c6, .int .i64 T.fault, .int .i64 T.fuel])
  have HBA := Lib.hid (HB2.out.alloc HB2.out.size (.cells #[.slice C0 T.data.length c0, .slice C1 T.ret.length c1, .int .i32 T.a, .slice C2 T.mem.length c2, .slice C3 T.cells.length c3, .slice C4 T.vars.length c4, .slice C5 T.out.length c5, .slice C6 T.inp.length c6, .int .i64 T.fault, .int .i64 T.fuel] 29))
  have nbo : w.heap.size + 1 ≠ w2.heap.size := by omega
  have KPA := Lib.hid (KP2.out.alloc (.cells #[.slice C0 T.data.length c0, .slice C1 T.ret.length c1, .int .i32 T.a, .slice C2 T.mem.length c2, .slice C3 T.cells.length c3, .slice C4 T.vars.length c4, .slice C5 T.out.length c5, .slice C6 T.inp.length c6, .int .i64 T.fault, .int .i64 T.fuel] 29))
  clear KP2 KOA
  go_wp2_with fail
  refine (HIN.out _).mono ?_
  rintro e w3 ⟨rfl, rfl⟩
  have kpa := KPA.out
  have kra := KRA.out
  have hba := HBA.out
  generalize w2.alloc (.cells #[.slice C0 T.data.length c0, .slice C1 T.ret.length c1, .int .i32 T.a, .slice C2 T.mem.length c2, .slice C3 T.cells.length c3, .slice C4 T.vars.length c4, .slice C5 T.out.length c5, .slice C6 T.inp.length c6, .int .i64 T.fault, .int .i64 T.fuel] 29) = wy at kpa kra hba HOA ⊢
  have lp := kpa.lt
  obtain ⟨p0, p1, p2, p3, p4, p5, p6, p7, p8, p9⟩ := st_cells kpa
  have KRY := Lib.hid kra
  have HBY := Lib.hid hba
  clear kpa kra hba KPA KRA HBA HOA
  go_wp2_with fail
  go_loop [9] (fun vi => ∃ i : Nat, vi = .int .i64 i ∧ i ≤ S.vars.length) (fun vi => S.vars.length - (intOf vi).toNat)
  case atStart => exact ⟨0, rfl, by omega⟩
  case round =>
    obtain ⟨i, rfl, hi⟩ := hrel
    by_cases hp : i < S.vars.length
    · have i2 : (i : Int) < (S.vars.length : Int) := by omega
      go_wp2_with fail
      go_round
      case rel => exact ⟨i + 1, by go_num, by omega⟩
      case measure => simp [intOf]; omega
    · have i2 : ¬ (i : Int) < (S.vars.length : Int) := by omega
      go_wp2_with fail
      refine (HF.out _ HBY.out).mono ?_
      rintro e w4 ⟨v0, v1, v2, v3, v4, v5, v6, rfl, ho, hb4⟩
      have sz4 : w.heap.size + 2 ≤ w4.heap.size := by have := hb4.size; have := KRY.out.lt; omega
      have HB4 : Hid (Below w.heap.size w w4) := Lib.hid (HBY.out.trans (hb4.mono HBY.out.size))
      have KR4 := Lib.hid (KRY.out.below hb4 KRY.out.lt)
      have HO4 := Lib.hid (ho.mono (l2 := w.heap.size + 2) (h2 := w4.heap.size) (by have := KRY.out.lt; omega) (Nat.le_refl _))
      obtain ⟨⟨C0, c0, rfl⟩, ⟨C1, c1, rfl⟩, ⟨C2, c2, rfl⟩, ⟨C3, c3, rfl⟩, ⟨C4, c4, rfl⟩, ⟨C5, c5, rfl⟩, ⟨C6, c6, rfl⟩⟩ := ho.form (S := { S with fault := 4 }) HTF.out
      clear ho hb4
      obtain ⟨r0, r1, r2, r3, r4, r5, r6, r7, r8, r9⟩ := st_cells KR4.out
      have fr := KR4.out.frozen
      go_wp2_with fail
      have kr := KR4.out
      show bodyPost _ _ _ _ _ (putSt w4 (w.heap.size + 1) (.slice C0 S.data.length c0) (.slice C1 S.ret.length c1) (.int .i32 S.a) (.slice C2 S.mem.length c2) (.slice C3 S.cells.length c3) (.slice C4 S.vars.length c4) (.slice C5 S.out.length c5) (.slice C6 S.inp.length c6) (.int .i64 4) (.int .i64 S.fuel))
      have y1 := putSt_blk kr (.slice C0 S.data.length c0) (.slice C1 S.ret.length c1) (.int .i32 S.a) (.slice C2 S.mem.length c2) (.slice C3 S.cells.length c3) (.slice C4 S.vars.length c4) (.slice C5 S.out.length c5) (.slice C6 S.inp.length c6) (.int .i64 4) (.int .i64 S.fuel)
      have y2 := (HB4.out).grown (putSt_only w4 (w.heap.size + 1) (.slice C0 S.data.length c0) (.slice C1 S.ret.length c1) (.int .i32 S.a) (.slice C2 S.mem.length c2) (.slice C3 S.cells.length c3) (.slice C4 S.vars.length c4) (.slice C5 S.out.length c5) (.slice C6 S.inp.length c6) (.int .i64 4) (.int .i64 S.fuel)) (HB4.out).size (fun k hk => by injection hk with hk; omega)
      have y3 := OwnSt.setSt HO4.out (g := w.heap.size + 1) (.inl (by omega)) (.slice C0 S.data.length c0) (.slice C1 S.ret.length c1) (.int .i32 S.a) (.slice C2 S.mem.length c2) (.slice C3 S.cells.length c3) (.slice C4 S.vars.length c4) (.slice C5 S.out.length c5) (.slice C6 S.inp.length c6) (.int .i64 4) (.int .i64 S.fuel)
      have y4 := putSt_size w4 (w.heap.size + 1) (.slice C0 S.data.length c0) (.slice C1 S.ret.length c1) (.int .i32 S.a) (.slice C2 S.mem.length c2) (.slice C3 S.cells.length c3) (.slice C4 S.vars.length c4) (.slice C5 S.out.length c5) (.slice C6 S.inp.length c6) (.int .i64 4) (.int .i64 S.fuel)
      generalize putSt w4 (w.heap.size + 1) (.slice C0 S.data.length c0) (.slice C1 S.ret.length c1) (.int .i32 S.a) (.slice C2 S.mem.length c2) (.slice C3 S.cells.length c3) (.slice C4 S.vars.length c4) (.slice C5 S.out.length c5) (.slice C6 S.inp.length c6) (.int .i64 4) (.int .i64 S.fuel) = W at y1 y2 y3 y4 ⊢
      obtain ⟨z0, z1, z2, z3, z4, z5, z6, z7, z8, z9⟩ := st_cells y1
      exact bodyPost_ret (v := .agg #[.slice C0 S.data.length c0, .slice C1 S.ret.length c1, .int .i32 S.a, .slice C2 S.mem.length c2, .slice C3 S.cells.length c3, .slice C4 S.vars.length c4, .slice C5 S.out.length c5, .slice C6 S.inp.length c6, .int .i64 4, .int .i64 S.fuel]) (by simp [results, Tryz.results106, z0, z1, z2, z3, z4, z5, z6, z7, z8, z9, go_sem]) rfl (newst_of y3 (by omega) (by first | (rw [y4]; simp; done) | (rw [y4]; simp; omega) | omega) y2)
set_option maxRecDepth 100000 in
set_option maxHeartbeats 3000000 in
theorem store_novar_s (d r m c v o i : Value) (S : S8) (x : Int) (j : Nat) (hj : j < S.cells.length) (hc : S.cells.length ≤ 2000) (hs : totSt S ≤ 2500000) (w : World) (hr : RdSt w d r m c v o i S) (ht2 : 2 ≤ S.data.length) (hdl : S.data.length ≤ 16) (hv20 : S.vars.length ≤ 20) (hni : (j : Int) ∉ S.vars) :
    Calls Tryz.prog 106 #[.agg #[d, r, .int .i32 S.a, m, c, v, o, i, .int .i64 S.fault, .int .i64 S.fuel], .int .i32 x, .int .i32 (1024 + (j : Int))] w (NewSt w { S with fault := 4 }) := by
  have hform := hr.form
  obtain ⟨⟨A0, a0, rfl⟩, ⟨A1, a1, rfl⟩, ⟨A2, a2, rfl⟩, ⟨A3, a3, rfl⟩, ⟨A4, a4, rfl⟩, ⟨A5, a5, rfl⟩, ⟨A6, a6, rfl⟩⟩ := hform
  have e1 : (w.alloc (.cells #[.slice A0 S.data.length a0, .slice A1 S.ret.length a1, .int .i32 S.a, .slice A2 S.mem.length a2, .slice A3 S.cells.length a3, .slice A4 S.vars.length a4, .slice A5 S.out.length a5, .slice A6 S.inp.length a6, .int .i64 S.fault, .int .i64 S.fuel] 29)).heap.size = w.heap.size + 1 := by simp
  have KP := Lib.hid (((Blk.new w 29 #[.slice A0 S.data.length a0, .slice A1 S.ret.length a1, .int .i32 S.a, .slice A2 S.mem.length a2, .slice A3 S.cells.length a3, .slice A4 S.vars.length a4, .slice A5 S.out.length a5, .slice A6 S.inp.length a6, .int .i64 S.fault, .int .i64 S.fuel]).alloc (.cells #[.slice none 0 0, .slice none 0 0, .int .i32 0, .slice none 0 0, .slice none 0 0, .slice none 0 0, .slice none 0 0, .slice none 0 0, .int .i64 0, .int .i64 0] 29)))
  have KR : Hid (Blk ((w.alloc (.cells #[.slice A0 S.data.length a0, .slice A1 S.ret.length a1, .int .i32 S.a, .slice A2 S.mem.length a2, .slice A3 S.cells.length a3, .slice A4 S.vars.length a4, .slice A5 S.out.length a5, .slice A6 S.inp.length a6, .int .i64 S.fault, .int .i64 S.fuel] 29)).alloc (.cells #[.slice none 0 0, .slice none 0 0, .int .i32 0, .slice none 0 0, .slice none 0 0, .slice none 0 0, .slice none 0 0, .slice none 0 0, .int .i64 0, .int .i64 0] 29)) (w.heap.size + 1) 29 #[.slice none 0 0, .slice none 0 0, .int .i32 0, .slice none 0 0, .slice none 0 0, .slice none 0 0, .slice none 0 0, .slice none 0 0, .int .i64 0, .int .i64 0]) := Lib.hid (by have := Blk.new (w.alloc (.cells #[.slice A0 S.data.length a0, .slice A1 S.ret.length a1, .int .i32 S.a, .slice A2 S.mem.length a2, .slice A3 S.cells.length a3, .slice A4 S.vars.length a4, .slice A5 S.out.length a5, .slice A6 S.inp.length a6, .int .i64 S.fault, .int .i64 S.fuel] 29)) 29 #[.slice none 0 0, .slice none 0 0, .int .i32 0, .slice none 0 0, .slice none 0 0, .slice none 0 0, .slice none 0 0, .slice none 0 0, .int .i64 0, .int .i64 0]; rw [e1] at this; exact this)
  have B0 : Hid (Below w.heap.size w ((w.alloc (.cells #[.slice A0 S.data.length a0, .slice A1 S.ret.length a1, .int .i32 S.a, .slice A2 S.mem.length a2, .slice A3 S.cells.length a3, .slice A4 S.vars.length a4, .slice A5 S.out.length a5, .slice A6 S.inp.length a6, .int .i64 S.fault, .int .i64 S.fuel] 29)).alloc (.cells #[.slice none 0 0, .slice none 0 0, .int .i32 0, .slice none 0 0, .slice none 0 0, .slice none 0 0, .slice none 0 0, .slice none 0 0, .int .i64 0, .int .i64 0] 29))) := Lib.hid (below_alloc2 w _ _)
  have Z0 : ((w.alloc (.cells #[.slice A0 S.data.length a0, .slice A1 S.ret.length a1, .int .i32 S.a, .slice A2 S.mem.length a2, .slice A3 S.cells.length a3, .slice A4 S.vars.length a4, .slice A5 S.out.length a5, .slice A6 S.inp.length a6, .int .i64 S.fault, .int .i64 S.fuel] 29)).alloc (.cells #[.slice none 0 0, .slice none 0 0, .int .i32 0, .slice none 0 0, .slice none 0 0, .slice none 0 0, .slice none 0 0, .slice none 0 0, .int .i64 0, .int .i64 0] 29)).heap.size = w.heap.size + 2 := by simp
  have HZ0 := Lib.hid Z0
  clear Z0 e1
  have HPL := Lib.hid (fun W (h : Below w.heap.size w W) => place_cell _ _ _ _ _ _ _ S j hj hc W (hr.below h))
  have hlt := ht2
  have HPUT := Lib.hid (fun lv W (h : Below w.heap.size w W) (hv : RdI W lv []) => spec_put _ _ _ _ _ _ _ S 2 lv [] hlt (by simp) hdl (by omega) W (hr.below h) hv)
  obtain ⟨T, hT0⟩ : ∃ T, drop8 S 2 = T := ⟨_, rfl⟩
  have hT : fin8 S (put8 S 2 []) = T := by
    rw [← hT0]
    unfold put8 drop8
    rw [if_neg (by simp; omega), List.append_nil]
    rfl
  have HT : Hid (totSt T ≤ 4000000) := Lib.hid (by rw [← hT]; exact put8_tot hs)
  have hTm : T.mem = S.mem := by rw [← hT0]; rfl
  have hTc : T.cells = S.cells := by rw [← hT0]; rfl
  rw [hT] at HPUT
  have HTS : Hid (totSt S ≤ 4000000) := Lib.hid (by omega)
  have HF := Lib.hid (fun W (h : Below w.heap.size w W) => spec_fault _ _ _ _ _ _ _ S 4 HTS.out W (hr.below h))
  have HTF : Hid (totSt { S with fault := 4 } ≤ 4000000) := Lib.hid HTS.out
  have HIN := Lib.hid (fun W => in_any (32 + (j : Int)) 0 31 W)
  rw [inB_false (by omega)] at HIN
  have hN20 : S.vars.length ≤ 20 := hv20
  have j0 : (0 : Int) ≤ 32 + (j : Int) := by omega
  have j2 : (j : Int) ≤ 2000 := by omega
  have j3 : 32 + (j : Int) - 32 = (j : Int) := by omega
  have HV : Hid (∀ W, Below w.heap.size w W → RdL W (.slice A4 S.vars.length a4) S.vars) := Lib.hid (fun W h => (hr.below h).v)
  have HNI := Lib.hid hni
  clear hr hs hlt hT hT0 ht2 hdl hTm hTc hj hc hv20 hni
  go_enter Tryz.func106, Tryz.ntmps106
  go_wp2_with fail
  refine (HPL.out _ B0.out).mono ?_
  rintro e w1 ⟨rfl, hb1⟩
  have sz1 : w.heap.size + 2 ≤ w1.heap.size := by have := hb1.size; rw [HZ0.out] at this; exact this
  have HB1 : Hid (Below w.heap.size w w1) := Lib.hid (B0.out.trans (hb1.mono B0.out.size))
  have KP1 := Lib.hid (KP.out.below hb1 KP.out.lt)
  have KR1 := Lib.hid (KR.out.below hb1 KR.out.lt)
  clear hb1 KP KR B0 HZ0
  obtain ⟨p0, p1, p2, p3, p4, p5, p6, p7, p8, p9⟩ := st_cells KP1.out
  obtain ⟨r0, r1, r2, r3, r4, r5, r6, r7, r8, r9⟩ := st_cells KR1.out
  have lp : w.heap.size < w1.heap.size := KP1.out.lt
  have lr : w.heap.size + 1 < w1.heap.size := KR1.out.lt
  have fp := KP1.out.frozen
  have fr := KR1.out.frozen
  have KP2a := KP1
  go_wp2_with fail
  refine (HPUT.out _ _ (HB1.out.alloc HB1.out.size _) (rdI_new w1 21 [] (by simp))).mono ?_
  rintro e w2 ⟨v0, v1, v2, v3, v4, v5, v6, rfl, ho, hb2⟩
  have sz2 : w.heap.size + 2 ≤ w2.heap.size := by have := hb2.size; first | omega | (rw [World.size_alloc] at this; omega)
  have HB2 : Hid (Below w.heap.size w w2) := Lib.hid ((HB1.out.alloc HB1.out.size (.cells #[] 21)).trans (hb2.mono (HB1.out.alloc HB1.out.size (.cells #[] 21)).size))
  have KP2 := Lib.hid ((KP1.out.alloc (.cells #[] 21)).below hb2 (KP1.out.alloc (.cells #[] 21)).lt)
  have KR2 := Lib.hid ((KR1.out.alloc (.cells #[] 21)).below hb2 (KR1.out.alloc (.cells #[] 21)).lt)
  have HO2 := Lib.hid (ho.mono (l2 := w.heap.size + 2) (h2 := w2.heap.size) (by first | omega | (rw [World.size_alloc]; omega)) (Nat.le_refl _))
  obtain ⟨⟨C0, c0, rfl⟩, ⟨C1, c1, rfl⟩, ⟨C2, c2, rfl⟩, ⟨C3, c3, rfl⟩, ⟨C4, c4, rfl⟩, ⟨C5, c5, rfl⟩, ⟨C6, c6, rfl⟩⟩ := ho.form (S := T) HT.out
  clear ho hb2 p0 p1 p2 p3 p4 p5 p6 p7 p8 p9 r0 r1 r2 r3 r4 r5 r6 r7 r8 r9 lp lr fp fr KP1 KP2a KR1 HB1
  obtain ⟨r0, r1, r2, r3, r4, r5, r6, r7, r8, r9⟩ := st_cells KR2.out
  have lr : w.heap.size + 1 < w2.heap.size := KR2.out.lt
  have fr := KR2.out.frozen
  have HOA := Lib.hid (HO2.out.alloc (.cells #[.slice C0 T.data.length c0, .slice C1 T.ret.length c1, .int .i32 T.a, .slice C2 T.mem.length c2, .slice C3 T.cells.length c3, .slice C4 T.vars.length c4, .slice C5 T.out.length c5, .slice C6 T.inp.length c6, .int .i64 T.fault, .int .i64 T.fuel] 29))
  have KRA := Lib.hid (KR2.out.alloc (.cells #[.slice C0 T.data.length c0, .slice C1 T.ret.length c1, .int .i32 T.a, .slice C2 T.mem.length c2, .slice C3 T.cells.length c3, .slice C4 T.vars.length c4, .slice C5 T.out.length c5, .slice C6 T.inp.length c6, .int .i64 T.fault, .int .i64 T.fuel] 29))
  have KOA := Lib.hid (Blk.new w2 29 #[.slice C0 T.data.length c0, .slice C1 T.ret.length c1, .int .i32 T.a, .slice C2 T.mem.length c2, .slice C3 T.cells.length c3, .slice C4 T.vars.length c4, .slice C5 T.out.length c5, .slice C6 T.inp.length c6, .int .i64 T.fault, .int .i64 T.fuel])
  have HBA := Lib.hid (HB2.out.alloc HB2.out.size (.cells #[.slice C0 T.data.length c0, .slice C1 T.ret.length c1, .int .i32 T.a, .slice C2 T.mem.length c2, .slice C3 T.cells.length c3, .slice C4 T.vars.length c4, .slice C5 T.out.length c5, .slice C6 T.inp.length c6, .int .i64 T.fault, .int .i64 T.fuel] 29))
  have nbo : w.heap.size + 1 ≠ w2.heap.size := by omega
  have KPA := Lib.hid (KP2.out.alloc (.cells #[.slice C0 T.data.length c0, .slice C1 T.ret.length c1, .int .i32 T.a, .slice C2 T.mem.length c2, .slice C3 T.cells.length c3, .slice C4 T.vars.length c4, .slice C5 T.out.length c5, .slice C6 T.inp.length c6, .int .i64 T.fault, .int .i64 T.fuel] 29))
  clear KP2 KOA
  go_wp2_with fail
  refine (HIN.out _).mono ?_
  rintro e w3 ⟨rfl, rfl⟩
  have HVV := Lib.hid (HV.out _ HBA.out)
  clear HV
  have hvv := HVV.out
  have kpa := KPA.out
  have kra := KRA.out
  have hba := HBA.out
  generalize w2.alloc (.cells #[.slice C0 T.data.length c0, .slice C1 T.ret.length c1, .int .i32 T.a, .slice C2 T.mem.length c2, .slice C3 T.cells.length c3, .slice C4 T.vars.length c4, .slice C5 T.out.length c5, .slice C6 T.inp.length c6, .int .i64 T.fault, .int .i64 T.fuel] 29) = wy at kpa kra hba hvv HOA ⊢
  have lp := kpa.lt
  obtain ⟨p0, p1, p2, p3, p4, p5, p6, p7, p8, p9⟩ := st_cells kpa
  have KRY := Lib.hid kra
  have HBY := Lib.hid hba
  have HVY := Lib.hid hvv
  clear kpa kra hba hvv KPA KRA HBA HOA HVV
  go_wp2_with fail
  go_loop [9] (fun vi => ∃ i : Nat, vi = .int .i64 i ∧ i ≤ S.vars.length) (fun vi => S.vars.length - (intOf vi).toNat)
  case atStart => exact ⟨0, rfl, by omega⟩
  case round =>
    obtain ⟨i, rfl, hi⟩ := hrel
    by_cases hp : i < S.vars.length
    · have i2 : (i : Int) < (S.vars.length : Int) := by omega
      have hiv : i < S.vars.length := hp
      obtain ⟨A, cp, hA, -, hcc⟩ := HVY.out
      injection hA with hA1 hA2 hA3
      subst hA1
      obtain ⟨av, rfl, lav, cav⟩ := hcc i hiv
      obtain ⟨z, hz⟩ : ∃ z, S.vars[i] = z := ⟨_, rfl⟩
      rw [hz] at cav
      replace cav : wy.cell? (av.add i) = some (.int .i64 z) := cav
      have hzj : z ≠ (j : Int) := fun e => HNI.out (by rw [← e, ← hz]; exact List.getElem_mem hiv)
      have hzb : (z == (j : Int)) = false := by simp [hzj]
      clear hcc hA2 hA3 hz hzj
      go_wp2_with fail
      go_round
      case rel => exact ⟨i + 1, by go_num, by omega⟩
      case measure => simp [intOf]; omega
    · have i2 : ¬ (i : Int) < (S.vars.length : Int) := by omega
      go_wp2_with fail
      refine (HF.out _ HBY.out).mono ?_
      rintro e w4 ⟨v0, v1, v2, v3, v4, v5, v6, rfl, ho, hb4⟩
      have sz4 : w.heap.size + 2 ≤ w4.heap.size := by have := hb4.size; have := KRY.out.lt; omega
      have HB4 : Hid (Below w.heap.size w w4) := Lib.hid (HBY.out.trans (hb4.mono HBY.out.size))
      have KR4 := Lib.hid (KRY.out.below hb4 KRY.out.lt)
      have HO4 := Lib.hid (ho.mono (l2 := w.heap.size + 2) (h2 := w4.heap.size) (by have := KRY.out.lt; omega) (Nat.le_refl _))
      obtain ⟨⟨C0, c0, rfl⟩, ⟨C1, c1, rfl⟩, ⟨C2, c2, rfl⟩, ⟨C3, c3, rfl⟩, ⟨C4, c4, rfl⟩, ⟨C5, c5, rfl⟩, ⟨C6, c6, rfl⟩⟩ := ho.form (S := { S with fault := 4 }) HTF.out
      clear ho hb4
      obtain ⟨r0, r1, r2, r3, r4, r5, r6, r7, r8, r9⟩ := st_cells KR4.out
      have fr := KR4.out.frozen
      go_wp2_with fail
      have kr := KR4.out
      show bodyPost _ _ _ _ _ (putSt w4 (w.heap.size + 1) (.slice C0 S.data.length c0) (.slice C1 S.ret.length c1) (.int .i32 S.a) (.slice C2 S.mem.length c2) (.slice C3 S.cells.length c3) (.slice C4 S.vars.length c4) (.slice C5 S.out.length c5) (.slice C6 S.inp.length c6) (.int .i64 4) (.int .i64 S.fuel))
      have y1 := putSt_blk kr (.slice C0 S.data.length c0) (.slice C1 S.ret.length c1) (.int .i32 S.a) (.slice C2 S.mem.length c2) (.slice C3 S.cells.length c3) (.slice C4 S.vars.length c4) (.slice C5 S.out.length c5) (.slice C6 S.inp.length c6) (.int .i64 4) (.int .i64 S.fuel)
      have y2 := (HB4.out).grown (putSt_only w4 (w.heap.size + 1) (.slice C0 S.data.length c0) (.slice C1 S.ret.length c1) (.int .i32 S.a) (.slice C2 S.mem.length c2) (.slice C3 S.cells.length c3) (.slice C4 S.vars.length c4) (.slice C5 S.out.length c5) (.slice C6 S.inp.length c6) (.int .i64 4) (.int .i64 S.fuel)) (HB4.out).size (fun k hk => by injection hk with hk; omega)
      have y3 := OwnSt.setSt HO4.out (g := w.heap.size + 1) (.inl (by omega)) (.slice C0 S.data.length c0) (.slice C1 S.ret.length c1) (.int .i32 S.a) (.slice C2 S.mem.length c2) (.slice C3 S.cells.length c3) (.slice C4 S.vars.length c4) (.slice C5 S.out.length c5) (.slice C6 S.inp.length c6) (.int .i64 4) (.int .i64 S.fuel)
      have y4 := putSt_size w4 (w.heap.size + 1) (.slice C0 S.data.length c0) (.slice C1 S.ret.length c1) (.int .i32 S.a) (.slice C2 S.mem.length c2) (.slice C3 S.cells.length c3) (.slice C4 S.vars.length c4) (.slice C5 S.out.length c5) (.slice C6 S.inp.length c6) (.int .i64 4) (.int .i64 S.fuel)
      generalize putSt w4 (w.heap.size + 1) (.slice C0 S.data.length c0) (.slice C1 S.ret.length c1) (.int .i32 S.a) (.slice C2 S.mem.length c2) (.slice C3 S.cells.length c3) (.slice C4 S.vars.length c4) (.slice C5 S.out.length c5) (.slice C6 S.inp.length c6) (.int .i64 4) (.int .i64 S.fuel) = W at y1 y2 y3 y4 ⊢
      obtain ⟨z0, z1, z2, z3, z4, z5, z6, z7, z8, z9⟩ := st_cells y1
      exact bodyPost_ret (v := .agg #[.slice C0 S.data.length c0, .slice C1 S.ret.length c1, .int .i32 S.a, .slice C2 S.mem.length c2, .slice C3 S.cells.length c3, .slice C4 S.vars.length c4, .slice C5 S.out.length c5, .slice C6 S.inp.length c6, .int .i64 4, .int .i64 S.fuel]) (by simp [results, Tryz.results106, z0, z1, z2, z3, z4, z5, z6, z7, z8, z9, go_sem]) rfl (newst_of y3 (by omega) (by first | (rw [y4]; simp; done) | (rw [y4]; simp; omega) | omega) y2)
end Go.Proofs.YtdiaiflleiebfaaGreatDoor
