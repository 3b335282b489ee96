/-
  spec.l08Other: push.
-/
import Derived.Test.YtdiaiflleiebfaaGreatDoorDO28
import Derived.Test.YtdiaiflleiebfaaGreatDoorDO16
namespace Go.Proofs.YtdiaiflleiebfaaGreatDoor
open Go.RowKit Go

set_option maxRecDepth 100000 in
set_option maxHeartbeats 3000000 in
theorem push_full (d r m c v o i : Value) (S : S8) (x y : Int) (_hx0 : -2147483648 ≤ x) (_hx1 : x ≤ 2147483647) (_hy0 : -2147483648 ≤ y) (_hy1 : y ≤ 2147483647) (h24 : S.ret.length = 24) (hs : totSt S ≤ 2500000) (w : World) (hr : RdSt w d r m c v o i S) (_hok : Ok8 S) :
    Calls Tryz.prog 43 #[.agg #[d, r, .int .i32 S.a, m, c, v, o, i, .int .i64 S.fault, .int .i64 S.fuel], .string ⟨#[112, 117, 115, 104]⟩, .int .i32 x, .int .i32 y] w (NewSt w (fin8 S (prim8 19 S x y))) := by
  have hform := hr.form
  obtain ⟨⟨A0, a0, rfl⟩, ⟨A1, a1, rfl⟩, ⟨A2, a2, rfl⟩, ⟨A3, a3, rfl⟩, ⟨A4, a4, rfl⟩, ⟨A5, a5, rfl⟩, ⟨A6, a6, rfl⟩⟩ := hform
  have e1 : (w.alloc (.cells #[.slice A0 S.data.length a0, .slice A1 S.ret.length a1, .int .i32 S.a, .slice A2 S.mem.length a2, .slice A3 S.cells.length a3, .slice A4 S.vars.length a4, .slice A5 S.out.length a5, .slice A6 S.inp.length a6, .int .i64 S.fault, .int .i64 S.fuel] 29)).heap.size = w.heap.size + 1 := by simp
  have KP := Lib.hid (((Blk.new w 29 #[.slice A0 S.data.length a0, .slice A1 S.ret.length a1, .int .i32 S.a, .slice A2 S.mem.length a2, .slice A3 S.cells.length a3, .slice A4 S.vars.length a4, .slice A5 S.out.length a5, .slice A6 S.inp.length a6, .int .i64 S.fault, .int .i64 S.fuel]).alloc (.cells #[.slice none 0 0, .slice none 0 0, .int .i32 0, .slice none 0 0, .slice none 0 0, .slice none 0 0, .slice none 0 0, .slice none 0 0, .int .i64 0, .int .i64 0] 29)))
  have KR : Hid (Blk ((w.alloc (.cells #[.slice A0 S.data.length a0, .slice A1 S.ret.length a1, .int .i32 S.a, .slice A2 S.mem.length a2, .slice A3 S.cells.length a3, .slice A4 S.vars.length a4, .slice A5 S.out.length a5, .slice A6 S.inp.length a6, .int .i64 S.fault, .int .i64 S.fuel] 29)).alloc (.cells #[.slice none 0 0, .slice none 0 0, .int .i32 0, .slice none 0 0, .slice none 0 0, .slice none 0 0, .slice none 0 0, .slice none 0 0, .int .i64 0, .int .i64 0] 29)) (w.heap.size + 1) 29 #[.slice none 0 0, .slice none 0 0, .int .i32 0, .slice none 0 0, .slice none 0 0, .slice none 0 0, .slice none 0 0, .slice none 0 0, .int .i64 0, .int .i64 0]) := Lib.hid (by have := Blk.new (w.alloc (.cells #[.slice A0 S.data.length a0, .slice A1 S.ret.length a1, .int .i32 S.a, .slice A2 S.mem.length a2, .slice A3 S.cells.length a3, .slice A4 S.vars.length a4, .slice A5 S.out.length a5, .slice A6 S.inp.length a6, .int .i64 S.fault, .int .i64 S.fuel] 29)) 29 #[.slice none 0 0, .slice none 0 0, .int .i32 0, .slice none 0 0, .slice none 0 0, .slice none 0 0, .slice none 0 0, .slice none 0 0, .int .i64 0, .int .i64 0]; rw [e1] at this; exact this)
  have B0 : Hid (Below w.heap.size w ((w.alloc (.cells #[.slice A0 S.data.length a0, .slice A1 S.ret.length a1, .int .i32 S.a, .slice A2 S.mem.length a2, .slice A3 S.cells.length a3, .slice A4 S.vars.length a4, .slice A5 S.out.length a5, .slice A6 S.inp.length a6, .int .i64 S.fault, .int .i64 S.fuel] 29)).alloc (.cells #[.slice none 0 0, .slice none 0 0, .int .i32 0, .slice none 0 0, .slice none 0 0, .slice none 0 0, .slice none 0 0, .slice none 0 0, .int .i64 0, .int .i64 0] 29))) := Lib.hid (below_alloc2 w _ _)
  have Z0 : ((w.alloc (.cells #[.slice A0 S.data.length a0, .slice A1 S.ret.length a1, .int .i32 S.a, .slice A2 S.mem.length a2, .slice A3 S.cells.length a3, .slice A4 S.vars.length a4, .slice A5 S.out.length a5, .slice A6 S.inp.length a6, .int .i64 S.fault, .int .i64 S.fuel] 29)).alloc (.cells #[.slice none 0 0, .slice none 0 0, .int .i32 0, .slice none 0 0, .slice none 0 0, .slice none 0 0, .slice none 0 0, .slice none 0 0, .int .i64 0, .int .i64 0] 29)).heap.size = w.heap.size + 2 := by simp
  have HZ0 := Lib.hid Z0
  clear Z0 e1
  have hr24 : S.ret.length = 24 := h24
  have HT : Hid (totSt S ≤ 4000000) := Lib.hid (by omega)
  have HF := Lib.hid (fun W (h : Below w.heap.size w W) => spec_fault _ _ _ _ _ _ _ S 3 HT.out W (hr.below h))
  have HTF : Hid (totSt { S with fault := 3 } ≤ 4000000) := Lib.hid HT.out
  rw [show fin8 S (prim8 19 S x y) = { S with fault := 3 } by unfold prim8; simp only [if_pos hr24]; rfl]
  have g1 : ((S.ret.length : Int) == 24) = true := by rw [hr24]; decide
  clear hr hs hr24 h24
  go_enter Tryz.func43, Tryz.ntmps43
  go_wp2_with fail
  refine (HF.out _ B0.out).mono ?_
  rintro e w1 ⟨v0, v1, v2, v3, v4, v5, v6, rfl, ho, hb1⟩
  have sz1 : w.heap.size + 2 ≤ w1.heap.size := by have := hb1.size; first | (rw [HZ0.out] at this; exact this) | (rw [World.size_alloc, HZ0.out] at this; omega)
  have hlo1 : w.heap.size + 2 ≤ ((w.alloc (.cells #[.slice A0 S.data.length a0, .slice A1 S.ret.length a1, .int .i32 S.a, .slice A2 S.mem.length a2, .slice A3 S.cells.length a3, .slice A4 S.vars.length a4, .slice A5 S.out.length a5, .slice A6 S.inp.length a6, .int .i64 S.fault, .int .i64 S.fuel] 29)).alloc (.cells #[.slice none 0 0, .slice none 0 0, .int .i32 0, .slice none 0 0, .slice none 0 0, .slice none 0 0, .slice none 0 0, .slice none 0 0, .int .i64 0, .int .i64 0] 29)).heap.size := by first | (rw [HZ0.out]; exact Nat.le_refl _) | (rw [World.size_alloc, HZ0.out]; omega)
  have HB1 : Hid (Below w.heap.size w w1) := Lib.hid (B0.out.trans (hb1.mono B0.out.size))
  have KR1 := Lib.hid ((KR.out).below hb1 (KR.out).lt)
  have HO1 := Lib.hid (ho.mono (l2 := w.heap.size + 2) (h2 := w1.heap.size) hlo1 (Nat.le_refl _))
  obtain ⟨⟨C0, c0, rfl⟩, ⟨C1, c1, rfl⟩, ⟨C2, c2, rfl⟩, ⟨C3, c3, rfl⟩, ⟨C4, c4, rfl⟩, ⟨C5, c5, rfl⟩, ⟨C6, c6, rfl⟩⟩ := ho.form (S := { S with fault := 3 }) HTF.out
  clear ho hb1 KP KR B0 HZ0 hlo1
  obtain ⟨r0, r1, r2, r3, r4, r5, r6, r7, r8, r9⟩ := st_cells KR1.out
  have lr : w.heap.size + 1 < w1.heap.size := KR1.out.lt
  have fr := KR1.out.frozen
  go_wp2_with fail
  have kr := KR1.out
  show bodyPost _ _ _ _ _ (putSt w1 (w.heap.size + 1) (.slice C0 S.data.length c0) (.slice C1 S.ret.length c1) (.int .i32 S.a) (.slice C2 S.mem.length c2) (.slice C3 S.cells.length c3) (.slice C4 S.vars.length c4) (.slice C5 S.out.length c5) (.slice C6 S.inp.length c6) (.int .i64 3) (.int .i64 S.fuel))
  have y1 := putSt_blk kr (.slice C0 S.data.length c0) (.slice C1 S.ret.length c1) (.int .i32 S.a) (.slice C2 S.mem.length c2) (.slice C3 S.cells.length c3) (.slice C4 S.vars.length c4) (.slice C5 S.out.length c5) (.slice C6 S.inp.length c6) (.int .i64 3) (.int .i64 S.fuel)
  have y2 := (HB1.out).grown (putSt_only w1 (w.heap.size + 1) (.slice C0 S.data.length c0) (.slice C1 S.ret.length c1) (.int .i32 S.a) (.slice C2 S.mem.length c2) (.slice C3 S.cells.length c3) (.slice C4 S.vars.length c4) (.slice C5 S.out.length c5) (.slice C6 S.inp.length c6) (.int .i64 3) (.int .i64 S.fuel)) (HB1.out).size (fun k hk => by injection hk with hk; omega)
  have y3 := OwnSt.setSt HO1.out (g := w.heap.size + 1) (.inl (by omega)) (.slice C0 S.data.length c0) (.slice C1 S.ret.length c1) (.int .i32 S.a) (.slice C2 S.mem.length c2) (.slice C3 S.cells.length c3) (.slice C4 S.vars.length c4) (.slice C5 S.out.length c5) (.slice C6 S.inp.length c6) (.int .i64 3) (.int .i64 S.fuel)
  have y4 := putSt_size w1 (w.heap.size + 1) (.slice C0 S.data.length c0) (.slice C1 S.ret.length c1) (.int .i32 S.a) (.slice C2 S.mem.length c2) (.slice C3 S.cells.length c3) (.slice C4 S.vars.length c4) (.slice C5 S.out.length c5) (.slice C6 S.inp.length c6) (.int .i64 3) (.int .i64 S.fuel)
  generalize putSt w1 (w.heap.size + 1) (.slice C0 S.data.length c0) (.slice C1 S.ret.length c1) (.int .i32 S.a) (.slice C2 S.mem.length c2) (.slice C3 S.cells.length c3) (.slice C4 S.vars.length c4) (.slice C5 S.out.length c5) (.slice C6 S.inp.length c6) (.int .i64 3) (.int .i64 S.fuel) = W at y1 y2 y3 y4 ⊢
  obtain ⟨z0, z1, z2, z3, z4, z5, z6, z7, z8, z9⟩ := st_cells y1
  exact bodyPost_ret (v := .agg #[.slice C0 S.data.length c0, .slice C1 S.ret.length c1, .int .i32 S.a, .slice C2 S.mem.length c2, .slice C3 S.cells.length c3, .slice C4 S.vars.length c4, .slice C5 S.out.length c5, .slice C6 S.inp.length c6, .int .i64 3, .int .i64 S.fuel]) (by simp [results, Tryz.results43, z0, z1, z2, z3, z4, z5, z6, z7, z8, z9, go_sem]) rfl (newst_of y3 (by omega) (by first | (rw [y4]; simp; done) | (rw [y4]; simp; omega) | omega) y2)
set_option maxRecDepth 100000 in
set_option maxHeartbeats 3000000 in
theorem push_put (d r m c v o i : Value) (S : S8) (x y : Int) (_hx0 : -2147483648 ≤ x) (_hx1 : x ≤ 2147483647) (_hy0 : -2147483648 ≤ y) (_hy1 : y ≤ 2147483647) (h24 : ¬ S.ret.length = 24) (hs : totSt S ≤ 2500000) (w : World) (hr : RdSt w d r m c v o i S) (hok : Ok8 S) (ht : 1 ≤ S.data.length) :
    Calls Tryz.prog 43 #[.agg #[d, r, .int .i32 S.a, m, c, v, o, i, .int .i64 S.fault, .int .i64 S.fuel], .string ⟨#[112, 117, 115, 104]⟩, .int .i32 x, .int .i32 y] w (NewSt w (fin8 S (prim8 19 S x y))) := by
  have hform := hr.form
  obtain ⟨⟨A0, a0, rfl⟩, ⟨A1, a1, rfl⟩, ⟨A2, a2, rfl⟩, ⟨A3, a3, rfl⟩, ⟨A4, a4, rfl⟩, ⟨A5, a5, rfl⟩, ⟨A6, a6, rfl⟩⟩ := hform
  have e1 : (w.alloc (.cells #[.slice A0 S.data.length a0, .slice A1 S.ret.length a1, .int .i32 S.a, .slice A2 S.mem.length a2, .slice A3 S.cells.length a3, .slice A4 S.vars.length a4, .slice A5 S.out.length a5, .slice A6 S.inp.length a6, .int .i64 S.fault, .int .i64 S.fuel] 29)).heap.size = w.heap.size + 1 := by simp
  have KP := Lib.hid (((Blk.new w 29 #[.slice A0 S.data.length a0, .slice A1 S.ret.length a1, .int .i32 S.a, .slice A2 S.mem.length a2, .slice A3 S.cells.length a3, .slice A4 S.vars.length a4, .slice A5 S.out.length a5, .slice A6 S.inp.length a6, .int .i64 S.fault, .int .i64 S.fuel]).alloc (.cells #[.slice none 0 0, .slice none 0 0, .int .i32 0, .slice none 0 0, .slice none 0 0, .slice none 0 0, .slice none 0 0, .slice none 0 0, .int .i64 0, .int .i64 0] 29)))
  have KR : Hid (Blk ((w.alloc (.cells #[.slice A0 S.data.length a0, .slice A1 S.ret.length a1, .int .i32 S.a, .slice A2 S.mem.length a2, .slice A3 S.cells.length a3, .slice A4 S.vars.length a4, .slice A5 S.out.length a5, .slice A6 S.inp.length a6, .int .i64 S.fault, .int .i64 S.fuel] 29)).alloc (.cells #[.slice none 0 0, .slice none 0 0, .int .i32 0, .slice none 0 0, .slice none 0 0, .slice none 0 0, .slice none 0 0, .slice none 0 0, .int .i64 0, .int .i64 0] 29)) (w.heap.size + 1) 29 #[.slice none 0 0, .slice none 0 0, .int .i32 0, .slice none 0 0, .slice none 0 0, .slice none 0 0, .slice none 0 0, .slice none 0 0, .int .i64 0, .int .i64 0]) := Lib.hid (by have := Blk.new (w.alloc (.cells #[.slice A0 S.data.length a0, .slice A1 S.ret.length a1, .int .i32 S.a, .slice A2 S.mem.length a2, .slice A3 S.cells.length a3, .slice A4 S.vars.length a4, .slice A5 S.out.length a5, .slice A6 S.inp.length a6, .int .i64 S.fault, .int .i64 S.fuel] 29)) 29 #[.slice none 0 0, .slice none 0 0, .int .i32 0, .slice none 0 0, .slice none 0 0, .slice none 0 0, .slice none 0 0, .slice none 0 0, .int .i64 0, .int .i64 0]; rw [e1] at this; exact this)
  have B0 : Hid (Below w.heap.size w ((w.alloc (.cells #[.slice A0 S.data.length a0, .slice A1 S.ret.length a1, .int .i32 S.a, .slice A2 S.mem.length a2, .slice A3 S.cells.length a3, .slice A4 S.vars.length a4, .slice A5 S.out.length a5, .slice A6 S.inp.length a6, .int .i64 S.fault, .int .i64 S.fuel] 29)).alloc (.cells #[.slice none 0 0, .slice none 0 0, .int .i32 0, .slice none 0 0, .slice none 0 0, .slice none 0 0, .slice none 0 0, .slice none 0 0, .int .i64 0, .int .i64 0] 29))) := Lib.hid (below_alloc2 w _ _)
  have Z0 : ((w.alloc (.cells #[.slice A0 S.data.length a0, .slice A1 S.ret.length a1, .int .i32 S.a, .slice A2 S.mem.length a2, .slice A3 S.cells.length a3, .slice A4 S.vars.length a4, .slice A5 S.out.length a5, .slice A6 S.inp.length a6, .int .i64 S.fault, .int .i64 S.fuel] 29)).alloc (.cells #[.slice none 0 0, .slice none 0 0, .int .i32 0, .slice none 0 0, .slice none 0 0, .slice none 0 0, .slice none 0 0, .slice none 0 0, .int .i64 0, .int .i64 0] 29)).heap.size = w.heap.size + 2 := by simp
  have HZ0 := Lib.hid Z0
  clear Z0 e1
  have hlt := ht
  have hdl := hok.data
  have HPUT := Lib.hid (fun lv W (h : Below w.heap.size w W) (hv : RdI W lv []) => spec_put _ _ _ _ _ _ _ S 1 lv [] hlt (by simp) hdl (by omega) W (hr.below h) hv)
  obtain ⟨T, hT0⟩ : ∃ T, drop8 S 1 = T := ⟨_, rfl⟩
  have hT : fin8 S (put8 S 1 []) = T := by
    rw [← hT0]
    unfold put8 drop8
    rw [if_neg (by simp; omega), List.append_nil]
    rfl
  have HT : Hid (totSt T ≤ 4000000) := Lib.hid (by rw [← hT]; exact put8_tot hs)
  rw [hT] at HPUT
  have hres : fin8 S (prim8 19 S x y) = { T with ret := T.ret ++ [(0, y)] } := by
    rw [← hT0]
    unfold prim8
    simp only [if_neg h24]
    rfl
  rw [hres]
  have hTr : T.ret = S.ret := by rw [← hT0]; rfl
  have hr24 := hok.ret
  have g1 : ((S.ret.length : Int) == 24) = false := by simp; omega
  have g4 : T.ret.length ≤ 24 := by rw [hTr]; exact hr24
  obtain ⟨i0, hi0, hz0, hz1, hz2⟩ := info_parts infoS
  have HV : Hid (RdI (((w.alloc (.cells #[.slice A0 S.data.length a0, .slice A1 S.ret.length a1, .int .i32 S.a, .slice A2 S.mem.length a2, .slice A3 S.cells.length a3, .slice A4 S.vars.length a4, .slice A5 S.out.length a5, .slice A6 S.inp.length a6, .int .i64 S.fault, .int .i64 S.fuel] 29)).alloc (.cells #[.slice none 0 0, .slice none 0 0, .int .i32 0, .slice none 0 0, .slice none 0 0, .slice none 0 0, .slice none 0 0, .slice none 0 0, .int .i64 0, .int .i64 0] 29)).alloc (.cells #[] 21)) (.slice (some ⟨w.heap.size + 1 + 1, 0, none⟩) 0 0) []) := Lib.hid (by have h := rdI_new ((w.alloc (.cells #[.slice A0 S.data.length a0, .slice A1 S.ret.length a1, .int .i32 S.a, .slice A2 S.mem.length a2, .slice A3 S.cells.length a3, .slice A4 S.vars.length a4, .slice A5 S.out.length a5, .slice A6 S.inp.length a6, .int .i64 S.fault, .int .i64 S.fuel] 29)).alloc (.cells #[.slice none 0 0, .slice none 0 0, .int .i32 0, .slice none 0 0, .slice none 0 0, .slice none 0 0, .slice none 0 0, .slice none 0 0, .int .i64 0, .int .i64 0] 29)) 21 [] (by simp); rw [HZ0.out] at h; exact h)
  clear hr hs hok hT hT0 hlt hdl ht hres hr24 hTr h24
  go_enter Tryz.func43, Tryz.ntmps43
  go_wp2_with fail
  refine (HPUT.out _ _ (B0.out.alloc B0.out.size _) HV.out).mono ?_
  rintro e w1 ⟨v0, v1, v2, v3, v4, v5, v6, rfl, ho, hb1⟩
  have sz1 : w.heap.size + 2 ≤ w1.heap.size := by have := hb1.size; first | (rw [HZ0.out] at this; exact this) | (rw [World.size_alloc, HZ0.out] at this; omega)
  have hlo1 : w.heap.size + 2 ≤ (((w.alloc (.cells #[.slice A0 S.data.length a0, .slice A1 S.ret.length a1, .int .i32 S.a, .slice A2 S.mem.length a2, .slice A3 S.cells.length a3, .slice A4 S.vars.length a4, .slice A5 S.out.length a5, .slice A6 S.inp.length a6, .int .i64 S.fault, .int .i64 S.fuel] 29)).alloc (.cells #[.slice none 0 0, .slice none 0 0, .int .i32 0, .slice none 0 0, .slice none 0 0, .slice none 0 0, .slice none 0 0, .slice none 0 0, .int .i64 0, .int .i64 0] 29)).alloc (.cells #[] 21)).heap.size := by first | (rw [HZ0.out]; exact Nat.le_refl _) | (rw [World.size_alloc, HZ0.out]; omega)
  have HB1 : Hid (Below w.heap.size w w1) := Lib.hid ((B0.out.alloc B0.out.size (.cells #[] 21)).trans (hb1.mono (B0.out.alloc B0.out.size (.cells #[] 21)).size))
  have KR1 := Lib.hid ((KR.out.alloc (.cells #[] 21)).below hb1 (KR.out.alloc (.cells #[] 21)).lt)
  have HO1 := Lib.hid (ho.mono (l2 := w.heap.size + 2) (h2 := w1.heap.size) hlo1 (Nat.le_refl _))
  obtain ⟨⟨C0, c0, rfl⟩, ⟨C1, c1, rfl⟩, ⟨C2, c2, rfl⟩, ⟨C3, c3, rfl⟩, ⟨C4, c4, rfl⟩, ⟨C5, c5, rfl⟩, ⟨C6, c6, rfl⟩⟩ := ho.form (S := T) HT.out
  clear ho hb1 KP KR B0 HZ0 hlo1
  obtain ⟨r0, r1, r2, r3, r4, r5, r6, r7, r8, r9⟩ := st_cells KR1.out
  have lr : w.heap.size + 1 < w1.heap.size := KR1.out.lt
  have fr := KR1.out.frozen
  have HOA := Lib.hid (HO1.out.alloc (.cells #[.slice C0 T.data.length c0, .slice C1 T.ret.length c1, .int .i32 T.a, .slice C2 T.mem.length c2, .slice C3 T.cells.length c3, .slice C4 T.vars.length c4, .slice C5 T.out.length c5, .slice C6 T.inp.length c6, .int .i64 T.fault, .int .i64 T.fuel] 29))
  have KRA := Lib.hid (KR1.out.alloc (.cells #[.slice C0 T.data.length c0, .slice C1 T.ret.length c1, .int .i32 T.a, .slice C2 T.mem.length c2, .slice C3 T.cells.length c3, .slice C4 T.vars.length c4, .slice C5 T.out.length c5, .slice C6 T.inp.length c6, .int .i64 T.fault, .int .i64 T.fuel] 29))
  have KOA := Lib.hid (Blk.new w1 29 #[.slice C0 T.data.length c0, .slice C1 T.ret.length c1, .int .i32 T.a, .slice C2 T.mem.length c2, .slice C3 T.cells.length c3, .slice C4 T.vars.length c4, .slice C5 T.out.length c5, .slice C6 T.inp.length c6, .int .i64 T.fault, .int .i64 T.fuel])
  have HBA := Lib.hid (HB1.out.alloc HB1.out.size (.cells #[.slice C0 T.data.length c0, .slice C1 T.ret.length c1, .int .i32 T.a, .slice C2 T.mem.length c2, .slice C3 T.cells.length c3, .slice C4 T.vars.length c4, .slice C5 T.out.length c5, .slice C6 T.inp.length c6, .int .i64 T.fault, .int .i64 T.fuel] 29))
  have nbo : w.heap.size + 1 ≠ w1.heap.size := by omega
  have HOA2 := Lib.hid (HOA.out.alloc (.cells #[.int .i64 0, .int .i32 y] 69))
  have KRA2 := Lib.hid (KRA.out.alloc (.cells #[.int .i64 0, .int .i32 y] 69))
  have KOA2 := Lib.hid (KOA.out.alloc (.cells #[.int .i64 0, .int .i32 y] 69))
  have HBA2 := Lib.hid (HBA.out.alloc HBA.out.size (.cells #[.int .i64 0, .int .i32 y] 69))
  have hwa : ((w1.alloc (.cells #[.slice C0 T.data.length c0, .slice C1 T.ret.length c1, .int .i32 T.a, .slice C2 T.mem.length c2, .slice C3 T.cells.length c3, .slice C4 T.vars.length c4, .slice C5 T.out.length c5, .slice C6 T.inp.length c6, .int .i64 T.fault, .int .i64 T.fuel] 29)).alloc (.cells #[.int .i64 0, .int .i32 y] 69)).heap.size = w1.heap.size + 2 := by simp
  have SRC : Hid (SrcAt ((w1.alloc (.cells #[.slice C0 T.data.length c0, .slice C1 T.ret.length c1, .int .i32 T.a, .slice C2 T.mem.length c2, .slice C3 T.cells.length c3, .slice C4 T.vars.length c4, .slice C5 T.out.length c5, .slice C6 T.inp.length c6, .int .i64 T.fault, .int .i64 T.fuel] 29)).alloc (.cells #[.int .i64 0, .int .i32 y] 69)) 2 (.slice (some ⟨w1.heap.size + 1, 0, none⟩) 1 1) 1 (slv [(0, y)])) := Lib.hid (by
    have hb := heap_alloc_new (w1.alloc (.cells #[.slice C0 T.data.length c0, .slice C1 T.ret.length c1, .int .i32 T.a, .slice C2 T.mem.length c2, .slice C3 T.cells.length c3, .slice C4 T.vars.length c4, .slice C5 T.out.length c5, .slice C6 T.inp.length c6, .int .i64 T.fault, .int .i64 T.fuel] 29)) (.cells #[.int .i64 0, .int .i32 y] 69)
    rw [World.size_alloc] at hb
    refine ⟨_, _, rfl, rfl, (by simp), ?_⟩
    intro a ha j x hj
    injection ha with ha
    subst ha
    rw [addr_lit, Nat.zero_add]
    rw [cell_of_row _ _ j _ _ _ hb]
    simpa [slv] using hj)
  have OD := HOA2.out.r
  obtain ⟨s0, s1, s2, s3, s4, s5, s6, s7, s8, s9⟩ := st_cells KOA2.out
  have fo := KOA2.out.frozen
  clear HOA KRA KOA HBA HO1 KR1
  go_wp2_with (at_builtin; refine wpList_append_src rfl _ _ 25 rfl (w.heap.size + 2) 69 i0 (.agg #[.int .i64 0, .int .i32 0]) 2 16 Tryz.underlying25 hi0 hz0 hz1 hz2 rfl (by decide) (.slice C1 T.ret.length c1) T.ret.length (slv T.ret) rfl OD (.slice (some ⟨w1.heap.size + 1, 0, none⟩) 1 1) 1 (slv [(0, y)]) rfl SRC.out slv_one (by unfold maxLen; omega) (by omega) (by simp; omega) ?_; intro v' w2 hown halt; refine unstop ?_)
  refine Stop.go ?_
  have hd' : w2.ownsRow (w.heap.size + 2) 69 2 v' (T.ret ++ [(0, y)]).length (slv (T.ret ++ [(0, y)])) := by
    rw [slv_app, List.length_append]
    exact hown
  have hgr : ((w1.alloc (.cells #[.slice C0 T.data.length c0, .slice C1 T.ret.length c1, .int .i32 T.a, .slice C2 T.mem.length c2, .slice C3 T.cells.length c3, .slice C4 T.vars.length c4, .slice C5 T.out.length c5, .slice C6 T.inp.length c6, .int .i64 T.fault, .int .i64 T.fuel] 29)).alloc (.cells #[.int .i64 0, .int .i32 y] 69)).grownBy w2 (Value.slice C1 T.ret.length c1).ownBlock := halt.out.grown
  have HO2 := Lib.hid (HOA2.out.newRet hd' hgr)
  have gne1 : some (w.heap.size + 1) ≠ (Value.slice C1 T.ret.length c1).ownBlock := fun e => by have := own_lt HOA2.out.r _ e.symm; omega
  have gne2 : some w1.heap.size ≠ (Value.slice C1 T.ret.length c1).ownBlock := fun e => by have := HOA2.out.top _ (by simp) _ e.symm; omega
  have KR2 := Lib.hid (KRA2.out.grown hgr gne1)
  have KO2 := Lib.hid (KOA2.out.grown hgr gne2)
  have HB2 : Hid (Below w.heap.size w w2) := Lib.hid (HBA2.out.grown hgr (by rw [hwa]; omega) (fun k hk => by have := own_lt HOA2.out.r k hk; omega))
  have sz2 : w1.heap.size + 1 ≤ w2.heap.size := by have := hgr.size; rw [hwa] at this; omega
  obtain ⟨D, dc, rfl⟩ := own_formG hd'
  have hlen : (T.ret ++ [(0, y)]).length = T.ret.length + 1 := by rw [List.length_append]; rfl
  clear s0 s1 s2 s3 s4 s5 s6 s7 s8 s9 fo
  obtain ⟨q0, q1, q2, q3, q4, q5, q6, q7, q8, q9⟩ := st_cells KO2.out
  have lo_ : w1.heap.size < w2.heap.size := KO2.out.lt
  have fo := KO2.out.frozen
  rw [hlen] at HO2 hd'
  clear hown halt hd' hgr gne1 gne2 KRA2 KOA2 HBA2 HOA2 OD SRC hwa
  go_upto_region 31 with (fail)
  have kr := KR2.out.far (p := ⟨w1.heap.size, 1, none⟩) nbo (.slice D (T.ret.length + 1) dc)
  have ko := (show Blk (w2.setCell ⟨w1.heap.size, 1, none⟩ (.slice D (T.ret.length + 1) dc)) w1.heap.size 29 #[.slice C0 T.data.length c0, .slice D (T.ret.length + 1) dc, .int .i32 T.a, .slice C2 T.mem.length c2, .slice C3 T.cells.length c3, .slice C4 T.vars.length c4, .slice C5 T.out.length c5, .slice C6 T.inp.length c6, .int .i64 T.fault, .int .i64 T.fuel] by have := KO2.out.put 1 (.slice D (T.ret.length + 1) dc); simpa using this)
  have oz := HO2.out.atBox KO2.out (only_setCell (World.grownBy.refl _ _) (p := ⟨w1.heap.size, 1, none⟩) (.inl rfl) (.slice D (T.ret.length + 1) dc)) (by decide) (by decide) (by decide) (by decide) (by decide)
  have bz := HB2.out.setCell (p := ⟨w1.heap.size, 1, none⟩) (show w.heap.size ≤ w1.heap.size by omega) (.slice D (T.ret.length + 1) dc)
  have hz := bz.size
  have hy : w2.heap.size ≤ (w2.setCell ⟨w1.heap.size, 1, none⟩ (.slice D (T.ret.length + 1) dc)).heap.size := by first | (simp only [World.size_alloc]; omega) | (simp only [World.size_setCell]; omega) | (simp only [World.size_alloc, World.size_setCell]; omega)
  generalize (w2.setCell ⟨w1.heap.size, 1, none⟩ (.slice D (T.ret.length + 1) dc)) = wz at kr ko oz bz hz hy ⊢
  obtain ⟨m0, m1, m2, m3, m4, m5, m6, m7, m8, m9⟩ := st_cells ko
  obtain ⟨n0_, n1_, n2_, n3_, n4_, n5_, n6_, n7_, n8_, n9_⟩ := st_cells kr
  have lz1 : w.heap.size + 1 < wz.heap.size := kr.lt
  have lz2 : w1.heap.size < wz.heap.size := ko.lt
  have fz1 := kr.frozen
  have fz2 := ko.frozen
  have KRZ := Lib.hid kr
  have OZ := Lib.hid oz
  have BZ := Lib.hid bz
  clear kr ko oz bz
  go_wp2_with fail
  have kr := KRZ.out
  show bodyPost _ _ _ _ _ (putSt wz (w.heap.size + 1) (.slice C0 T.data.length c0) (.slice D (T.ret.length + 1) dc) (.int .i32 T.a) (.slice C2 T.mem.length c2) (.slice C3 T.cells.length c3) (.slice C4 T.vars.length c4) (.slice C5 T.out.length c5) (.slice C6 T.inp.length c6) (.int .i64 T.fault) (.int .i64 T.fuel))
  have y1 := putSt_blk kr (.slice C0 T.data.length c0) (.slice D (T.ret.length + 1) dc) (.int .i32 T.a) (.slice C2 T.mem.length c2) (.slice C3 T.cells.length c3) (.slice C4 T.vars.length c4) (.slice C5 T.out.length c5) (.slice C6 T.inp.length c6) (.int .i64 T.fault) (.int .i64 T.fuel)
  have y2 := (BZ.out).grown (putSt_only wz (w.heap.size + 1) (.slice C0 T.data.length c0) (.slice D (T.ret.length + 1) dc) (.int .i32 T.a) (.slice C2 T.mem.length c2) (.slice C3 T.cells.length c3) (.slice C4 T.vars.length c4) (.slice C5 T.out.length c5) (.slice C6 T.inp.length c6) (.int .i64 T.fault) (.int .i64 T.fuel)) (BZ.out).size (fun k hk => by injection hk with hk; omega)
  have y3 := OwnSt.setSt OZ.out (g := w.heap.size + 1) (.inl (by omega)) (.slice C0 T.data.length c0) (.slice D (T.ret.length + 1) dc) (.int .i32 T.a) (.slice C2 T.mem.length c2) (.slice C3 T.cells.length c3) (.slice C4 T.vars.length c4) (.slice C5 T.out.length c5) (.slice C6 T.inp.length c6) (.int .i64 T.fault) (.int .i64 T.fuel)
  have y4 := putSt_size wz (w.heap.size + 1) (.slice C0 T.data.length c0) (.slice D (T.ret.length + 1) dc) (.int .i32 T.a) (.slice C2 T.mem.length c2) (.slice C3 T.cells.length c3) (.slice C4 T.vars.length c4) (.slice C5 T.out.length c5) (.slice C6 T.inp.length c6) (.int .i64 T.fault) (.int .i64 T.fuel)
  generalize putSt wz (w.heap.size + 1) (.slice C0 T.data.length c0) (.slice D (T.ret.length + 1) dc) (.int .i32 T.a) (.slice C2 T.mem.length c2) (.slice C3 T.cells.length c3) (.slice C4 T.vars.length c4) (.slice C5 T.out.length c5) (.slice C6 T.inp.length c6) (.int .i64 T.fault) (.int .i64 T.fuel) = W at y1 y2 y3 y4 ⊢
  obtain ⟨z0, z1, z2, z3, z4, z5, z6, z7, z8, z9⟩ := st_cells y1
  exact bodyPost_ret (v := .agg #[.slice C0 T.data.length c0, .slice D (T.ret.length + 1) dc, .int .i32 T.a, .slice C2 T.mem.length c2, .slice C3 T.cells.length c3, .slice C4 T.vars.length c4, .slice C5 T.out.length c5, .slice C6 T.inp.length c6, .int .i64 T.fault, .int .i64 T.fuel]) (by simp [results, Tryz.results43, z0, z1, z2, z3, z4, z5, z6, z7, z8, z9, go_sem]) rfl (newst_of y3 (by omega) (by first | (rw [y4]; simp; done) | (rw [y4]; simp; omega) | omega) y2)
end Go.Proofs.YtdiaiflleiebfaaGreatDoor
