/-
  spec.l08Say: bytes behind Out.
-/
import Derived.Test.YtdiaiflleiebfaaGreatDoorDO12
import Derived.Test.YtdiaiflleiebfaaGreatDoorDO19
namespace Go.Proofs.YtdiaiflleiebfaaGreatDoor
open Go.RowKit Go

set_option maxRecDepth 100000 in
set_option maxHeartbeats 3000000 in
theorem say_no (d r m c v o i : Value) (S : S8) (lv : Value) (l : List Nat) (hl : l.length ≤ 40) (h400 : 400 < S.out.length + l.length) (ho400 : S.out.length ≤ 400) (hs : totSt S ≤ 2500000) (w : World) (hr : RdSt w d r m c v o i S) (hv : RdM w lv l) :
    Calls Tryz.prog 107 #[.agg #[d, r, .int .i32 S.a, m, c, v, o, i, .int .i64 S.fault, .int .i64 S.fuel], lv] w (NewSt w { S with fault := 13 }) := by
  have hform := hr.form
  obtain ⟨⟨A0, a0, rfl⟩, ⟨A1, a1, rfl⟩, ⟨A2, a2, rfl⟩, ⟨A3, a3, rfl⟩, ⟨A4, a4, rfl⟩, ⟨A5, a5, rfl⟩, ⟨A6, a6, rfl⟩⟩ := hform
  have e1 : (w.alloc (.cells #[.slice A0 S.data.length a0, .slice A1 S.ret.length a1, .int .i32 S.a, .slice A2 S.mem.length a2, .slice A3 S.cells.length a3, .slice A4 S.vars.length a4, .slice A5 S.out.length a5, .slice A6 S.inp.length a6, .int .i64 S.fault, .int .i64 S.fuel] 29)).heap.size = w.heap.size + 1 := by simp
  have KP := Lib.hid (((Blk.new w 29 #[.slice A0 S.data.length a0, .slice A1 S.ret.length a1, .int .i32 S.a, .slice A2 S.mem.length a2, .slice A3 S.cells.length a3, .slice A4 S.vars.length a4, .slice A5 S.out.length a5, .slice A6 S.inp.length a6, .int .i64 S.fault, .int .i64 S.fuel]).alloc (.cells #[.slice none 0 0, .slice none 0 0, .int .i32 0, .slice none 0 0, .slice none 0 0, .slice none 0 0, .slice none 0 0, .slice none 0 0, .int .i64 0, .int .i64 0] 29)))
  have KR : Hid (Blk ((w.alloc (.cells #[.slice A0 S.data.length a0, .slice A1 S.ret.length a1, .int .i32 S.a, .slice A2 S.mem.length a2, .slice A3 S.cells.length a3, .slice A4 S.vars.length a4, .slice A5 S.out.length a5, .slice A6 S.inp.length a6, .int .i64 S.fault, .int .i64 S.fuel] 29)).alloc (.cells #[.slice none 0 0, .slice none 0 0, .int .i32 0, .slice none 0 0, .slice none 0 0, .slice none 0 0, .slice none 0 0, .slice none 0 0, .int .i64 0, .int .i64 0] 29)) (w.heap.size + 1) 29 #[.slice none 0 0, .slice none 0 0, .int .i32 0, .slice none 0 0, .slice none 0 0, .slice none 0 0, .slice none 0 0, .slice none 0 0, .int .i64 0, .int .i64 0]) := Lib.hid (by have := Blk.new (w.alloc (.cells #[.slice A0 S.data.length a0, .slice A1 S.ret.length a1, .int .i32 S.a, .slice A2 S.mem.length a2, .slice A3 S.cells.length a3, .slice A4 S.vars.length a4, .slice A5 S.out.length a5, .slice A6 S.inp.length a6, .int .i64 S.fault, .int .i64 S.fuel] 29)) 29 #[.slice none 0 0, .slice none 0 0, .int .i32 0, .slice none 0 0, .slice none 0 0, .slice none 0 0, .slice none 0 0, .slice none 0 0, .int .i64 0, .int .i64 0]; rw [e1] at this; exact this)
  have B0 : Hid (Below w.heap.size w ((w.alloc (.cells #[.slice A0 S.data.length a0, .slice A1 S.ret.length a1, .int .i32 S.a, .slice A2 S.mem.length a2, .slice A3 S.cells.length a3, .slice A4 S.vars.length a4, .slice A5 S.out.length a5, .slice A6 S.inp.length a6, .int .i64 S.fault, .int .i64 S.fuel] 29)).alloc (.cells #[.slice none 0 0, .slice none 0 0, .int .i32 0, .slice none 0 0, .slice none 0 0, .slice none 0 0, .slice none 0 0, .slice none 0 0, .int .i64 0, .int .i64 0] 29))) := Lib.hid (below_alloc2 w _ _)
  have Z0 : ((w.alloc (.cells #[.slice A0 S.data.length a0, .slice A1 S.ret.length a1, .int .i32 S.a, .slice A2 S.mem.length a2, .slice A3 S.cells.length a3, .slice A4 S.vars.length a4, .slice A5 S.out.length a5, .slice A6 S.inp.length a6, .int .i64 S.fault, .int .i64 S.fuel] 29)).alloc (.cells #[.slice none 0 0, .slice none 0 0, .int .i32 0, .slice none 0 0, .slice none 0 0, .slice none 0 0, .slice none 0 0, .slice none 0 0, .int .i64 0, .int .i64 0] 29)).heap.size = w.heap.size + 2 := by simp
  have HZ0 := Lib.hid Z0
  clear Z0 e1
  have HV := Lib.hid (fun W (h : Below w.heap.size w W) => hv.below h)
  obtain ⟨B, b, rfl⟩ := hv.form
  have HT : Hid (totSt S ≤ 4000000) := Lib.hid (by omega)
  have HF := Lib.hid (fun W (h : Below w.heap.size w W) => spec_fault _ _ _ _ _ _ _ S 13 HT.out W (hr.below h))
  have HTF : Hid (totSt { S with fault := 13 } ≤ 4000000) := Lib.hid HT.out
  have g1 : (400 : Int) < (S.out.length : Int) + (l.length : Int) := by omega
  have g2 : (S.out.length : Int) ≤ 400 := by omega
  have g3 : (l.length : Int) ≤ 40 := by omega
  clear hr hs hv h400 HV
  go_enter Tryz.func107, Tryz.ntmps107
  go_wp2_with fail
  refine (HF.out _ B0.out).mono ?_
  rintro e w1 ⟨v0, v1, v2, v3, v4, v5, v6, rfl, ho, hb1⟩
  have sz1 : w.heap.size + 2 ≤ w1.heap.size := by have := hb1.size; first | (rw [HZ0.out] at this; exact this) | (rw [World.size_alloc, HZ0.out] at this; omega)
  have hlo1 : w.heap.size + 2 ≤ ((w.alloc (.cells #[.slice A0 S.data.length a0, .slice A1 S.ret.length a1, .int .i32 S.a, .slice A2 S.mem.length a2, .slice A3 S.cells.length a3, .slice A4 S.vars.length a4, .slice A5 S.out.length a5, .slice A6 S.inp.length a6, .int .i64 S.fault, .int .i64 S.fuel] 29)).alloc (.cells #[.slice none 0 0, .slice none 0 0, .int .i32 0, .slice none 0 0, .slice none 0 0, .slice none 0 0, .slice none 0 0, .slice none 0 0, .int .i64 0, .int .i64 0] 29)).heap.size := by first | (rw [HZ0.out]; exact Nat.le_refl _) | (rw [World.size_alloc, HZ0.out]; omega)
  have HB1 : Hid (Below w.heap.size w w1) := Lib.hid (B0.out.trans (hb1.mono B0.out.size))
  have KR1 := Lib.hid ((KR.out).below hb1 (KR.out).lt)
  have HO1 := Lib.hid (ho.mono (l2 := w.heap.size + 2) (h2 := w1.heap.size) hlo1 (Nat.le_refl _))
  obtain ⟨⟨C0, c0, rfl⟩, ⟨C1, c1, rfl⟩, ⟨C2, c2, rfl⟩, ⟨C3, c3, rfl⟩, ⟨C4, c4, rfl⟩, ⟨C5, c5, rfl⟩, ⟨C6, c6, rfl⟩⟩ := ho.form (S := { S with fault := 13 }) HTF.out
  clear ho hb1 KP KR B0 HZ0 hlo1
  obtain ⟨r0, r1, r2, r3, r4, r5, r6, r7, r8, r9⟩ := st_cells KR1.out
  have lr : w.heap.size + 1 < w1.heap.size := KR1.out.lt
  have fr := KR1.out.frozen
  go_wp2_with fail
  have kr := KR1.out
  show bodyPost _ _ _ _ _ (putSt w1 (w.heap.size + 1) (.slice C0 S.data.length c0) (.slice C1 S.ret.length c1) (.int .i32 S.a) (.slice C2 S.mem.length c2) (.slice C3 S.cells.length c3) (.slice C4 S.vars.length c4) (.slice C5 S.out.length c5) (.slice C6 S.inp.length c6) (.int .i64 13) (.int .i64 S.fuel))
  have y1 := putSt_blk kr (.slice C0 S.data.length c0) (.slice C1 S.ret.length c1) (.int .i32 S.a) (.slice C2 S.mem.length c2) (.slice C3 S.cells.length c3) (.slice C4 S.vars.length c4) (.slice C5 S.out.length c5) (.slice C6 S.inp.length c6) (.int .i64 13) (.int .i64 S.fuel)
  have y2 := (HB1.out).grown (putSt_only w1 (w.heap.size + 1) (.slice C0 S.data.length c0) (.slice C1 S.ret.length c1) (.int .i32 S.a) (.slice C2 S.mem.length c2) (.slice C3 S.cells.length c3) (.slice C4 S.vars.length c4) (.slice C5 S.out.length c5) (.slice C6 S.inp.length c6) (.int .i64 13) (.int .i64 S.fuel)) (HB1.out).size (fun k hk => by injection hk with hk; omega)
  have y3 := OwnSt.setSt HO1.out (g := w.heap.size + 1) (.inl (by omega)) (.slice C0 S.data.length c0) (.slice C1 S.ret.length c1) (.int .i32 S.a) (.slice C2 S.mem.length c2) (.slice C3 S.cells.length c3) (.slice C4 S.vars.length c4) (.slice C5 S.out.length c5) (.slice C6 S.inp.length c6) (.int .i64 13) (.int .i64 S.fuel)
  have y4 := putSt_size w1 (w.heap.size + 1) (.slice C0 S.data.length c0) (.slice C1 S.ret.length c1) (.int .i32 S.a) (.slice C2 S.mem.length c2) (.slice C3 S.cells.length c3) (.slice C4 S.vars.length c4) (.slice C5 S.out.length c5) (.slice C6 S.inp.length c6) (.int .i64 13) (.int .i64 S.fuel)
  generalize putSt w1 (w.heap.size + 1) (.slice C0 S.data.length c0) (.slice C1 S.ret.length c1) (.int .i32 S.a) (.slice C2 S.mem.length c2) (.slice C3 S.cells.length c3) (.slice C4 S.vars.length c4) (.slice C5 S.out.length c5) (.slice C6 S.inp.length c6) (.int .i64 13) (.int .i64 S.fuel) = W at y1 y2 y3 y4 ⊢
  obtain ⟨z0, z1, z2, z3, z4, z5, z6, z7, z8, z9⟩ := st_cells y1
  exact bodyPost_ret (v := .agg #[.slice C0 S.data.length c0, .slice C1 S.ret.length c1, .int .i32 S.a, .slice C2 S.mem.length c2, .slice C3 S.cells.length c3, .slice C4 S.vars.length c4, .slice C5 S.out.length c5, .slice C6 S.inp.length c6, .int .i64 13, .int .i64 S.fuel]) (by simp [results, Tryz.results107, z0, z1, z2, z3, z4, z5, z6, z7, z8, z9, go_sem]) rfl (newst_of y3 (by omega) (by first | (rw [y4]; simp; done) | (rw [y4]; simp; omega) | omega) y2)
set_option maxRecDepth 100000 in
set_option maxHeartbeats 3000000 in
theorem say_yes (d r m c v o i : Value) (S : S8) (lv : Value) (l : List Nat) (hl : l.length ≤ 40) (h400 : S.out.length + l.length ≤ 400) (hs : totSt S ≤ 2500000) (w : World) (hr : RdSt w d r m c v o i S) (hv : RdM w lv l) (ht1 : 1 ≤ S.data.length) (hdl : S.data.length ≤ 16) :
    Calls Tryz.prog 107 #[.agg #[d, r, .int .i32 S.a, m, c, v, o, i, .int .i64 S.fault, .int .i64 S.fuel], lv] w (NewSt w { drop8 S 1 with out := S.out ++ l }) := by
  have hform := hr.form
  obtain ⟨⟨A0, a0, rfl⟩, ⟨A1, a1, rfl⟩, ⟨A2, a2, rfl⟩, ⟨A3, a3, rfl⟩, ⟨A4, a4, rfl⟩, ⟨A5, a5, rfl⟩, ⟨A6, a6, rfl⟩⟩ := hform
  have e1 : (w.alloc (.cells #[.slice A0 S.data.length a0, .slice A1 S.ret.length a1, .int .i32 S.a, .slice A2 S.mem.length a2, .slice A3 S.cells.length a3, .slice A4 S.vars.length a4, .slice A5 S.out.length a5, .slice A6 S.inp.length a6, .int .i64 S.fault, .int .i64 S.fuel] 29)).heap.size = w.heap.size + 1 := by simp
  have KP := Lib.hid (((Blk.new w 29 #[.slice A0 S.data.length a0, .slice A1 S.ret.length a1, .int .i32 S.a, .slice A2 S.mem.length a2, .slice A3 S.cells.length a3, .slice A4 S.vars.length a4, .slice A5 S.out.length a5, .slice A6 S.inp.length a6, .int .i64 S.fault, .int .i64 S.fuel]).alloc (.cells #[.slice none 0 0, .slice none 0 0, .int .i32 0, .slice none 0 0, .slice none 0 0, .slice none 0 0, .slice none 0 0, .slice none 0 0, .int .i64 0, .int .i64 0] 29)))
  have KR : Hid (Blk ((w.alloc (.cells #[.slice A0 S.data.length a0, .slice A1 S.ret.length a1, .int .i32 S.a, .slice A2 S.mem.length a2, .slice A3 S.cells.length a3, .slice A4 S.vars.length a4, .slice A5 S.out.length a5, .slice A6 S.inp.length a6, .int .i64 S.fault, .int .i64 S.fuel] 29)).alloc (.cells #[.slice none 0 0, .slice none 0 0, .int .i32 0, .slice none 0 0, .slice none 0 0, .slice none 0 0, .slice none 0 0, .slice none 0 0, .int .i64 0, .int .i64 0] 29)) (w.heap.size + 1) 29 #[.slice none 0 0, .slice none 0 0, .int .i32 0, .slice none 0 0, .slice none 0 0, .slice none 0 0, .slice none 0 0, .slice none 0 0, .int .i64 0, .int .i64 0]) := Lib.hid (by have := Blk.new (w.alloc (.cells #[.slice A0 S.data.length a0, .slice A1 S.ret.length a1, .int .i32 S.a, .slice A2 S.mem.length a2, .slice A3 S.cells.length a3, .slice A4 S.vars.length a4, .slice A5 S.out.length a5, .slice A6 S.inp.length a6, .int .i64 S.fault, .int .i64 S.fuel] 29)) 29 #[.slice none 0 0, .slice none 0 0, .int .i32 0, .slice none 0 0, .slice none 0 0, .slice none 0 0, .slice none 0 0, .slice none 0 0, .int .i64 0, .int .i64 0]; rw [e1] at this; exact this)
  have B0 : Hid (Below w.heap.size w ((w.alloc (.cells #[.slice A0 S.data.length a0, .slice A1 S.ret.length a1, .int .i32 S.a, .slice A2 S.mem.length a2, .slice A3 S.cells.length a3, .slice A4 S.vars.length a4, .slice A5 S.out.length a5, .slice A6 S.inp.length a6, .int .i64 S.fault, .int .i64 S.fuel] 29)).alloc (.cells #[.slice none 0 0, .slice none 0 0, .int .i32 0, .slice none 0 0, .slice none 0 0, .slice none 0 0, .slice none 0 0, .slice none 0 0, .int .i64 0, .int .i64 0] 29))) := Lib.hid (below_alloc2 w _ _)
  have Z0 : ((w.alloc (.cells #[.slice A0 S.data.length a0, .slice A1 S.ret.length a1, .int .i32 S.a, .slice A2 S.mem.length a2, .slice A3 S.cells.length a3, .slice A4 S.vars.length a4, .slice A5 S.out.length a5, .slice A6 S.inp.length a6, .int .i64 S.fault, .int .i64 S.fuel] 29)).alloc (.cells #[.slice none 0 0, .slice none 0 0, .int .i32 0, .slice none 0 0, .slice none 0 0, .slice none 0 0, .slice none 0 0, .slice none 0 0, .int .i64 0, .int .i64 0] 29)).heap.size = w.heap.size + 2 := by simp
  have HZ0 := Lib.hid Z0
  clear Z0 e1
  have HV := Lib.hid (fun W (h : Below w.heap.size w W) => hv.below h)
  obtain ⟨B, b, rfl⟩ := hv.form
  have hlt := ht1
  have HPUT := Lib.hid (fun lv W (h : Below w.heap.size w W) (hv : RdI W lv []) => spec_put _ _ _ _ _ _ _ S 1 lv [] hlt (by simp) hdl (by omega) W (hr.below h) hv)
  obtain ⟨T, hT0⟩ : ∃ T, drop8 S 1 = T := ⟨_, rfl⟩
  have hT : fin8 S (put8 S 1 []) = T := by
    rw [← hT0]
    unfold put8 drop8
    rw [if_neg (by simp; omega), List.append_nil]
    rfl
  have HT : Hid (totSt T ≤ 4000000) := Lib.hid (by rw [← hT]; exact put8_tot hs)
  have hTo : T.out = S.out := by rw [← hT0]; rfl
  rw [hT] at HPUT
  have hres : ({ drop8 S 1 with out := S.out ++ l } : S8) = { T with out := T.out ++ l } := by rw [hT0, hTo]
  rw [hres]
  obtain ⟨i0, hi0, hz0, hz1, hz2⟩ := info_parts infoB8
  have hnS : S.out.length = T.out.length := by rw [hTo]
  have g1 : ¬ (400 : Int) < (S.out.length : Int) + (l.length : Int) := by omega
  have g2 : (S.out.length : Int) ≤ 400 := by omega
  have g3 : (l.length : Int) ≤ 40 := by omega
  have g4 : T.out.length + l.length ≤ 400 := by omega
  have HE0 : Hid (RdI (((w.alloc (.cells #[.slice A0 S.data.length a0, .slice A1 S.ret.length a1, .int .i32 S.a, .slice A2 S.mem.length a2, .slice A3 S.cells.length a3, .slice A4 S.vars.length a4, .slice A5 S.out.length a5, .slice A6 S.inp.length a6, .int .i64 S.fault, .int .i64 S.fuel] 29)).alloc (.cells #[.slice none 0 0, .slice none 0 0, .int .i32 0, .slice none 0 0, .slice none 0 0, .slice none 0 0, .slice none 0 0, .slice none 0 0, .int .i64 0, .int .i64 0] 29)).alloc (.cells #[] 21)) (.slice (some ⟨w.heap.size + 1 + 1, 0, none⟩) 0 0) []) := Lib.hid (by have h := rdI_new ((w.alloc (.cells #[.slice A0 S.data.length a0, .slice A1 S.ret.length a1, .int .i32 S.a, .slice A2 S.mem.length a2, .slice A3 S.cells.length a3, .slice A4 S.vars.length a4, .slice A5 S.out.length a5, .slice A6 S.inp.length a6, .int .i64 S.fault, .int .i64 S.fuel] 29)).alloc (.cells #[.slice none 0 0, .slice none 0 0, .int .i32 0, .slice none 0 0, .slice none 0 0, .slice none 0 0, .slice none 0 0, .slice none 0 0, .int .i64 0, .int .i64 0] 29)) 21 [] (by simp); rw [HZ0.out] at h; exact h)
  clear hr hs hv h400 hlt hT hT0 hTo hnS ht1 hdl hres
  go_enter Tryz.func107, Tryz.ntmps107
  go_wp2_with fail
  refine (HPUT.out _ _ (B0.out.alloc B0.out.size _) HE0.out).mono ?_
  rintro e w1 ⟨v0, v1, v2, v3, v4, v5, v6, rfl, ho, hb1⟩
  have sz1 : w.heap.size + 2 ≤ w1.heap.size := by have := hb1.size; first | (rw [HZ0.out] at this; exact this) | (rw [World.size_alloc, HZ0.out] at this; omega)
  have hlo1 : w.heap.size + 2 ≤ (((w.alloc (.cells #[.slice A0 S.data.length a0, .slice A1 S.ret.length a1, .int .i32 S.a, .slice A2 S.mem.length a2, .slice A3 S.cells.length a3, .slice A4 S.vars.length a4, .slice A5 S.out.length a5, .slice A6 S.inp.length a6, .int .i64 S.fault, .int .i64 S.fuel] 29)).alloc (.cells #[.slice none 0 0, .slice none 0 0, .int .i32 0, .slice none 0 0, .slice none 0 0, .slice none 0 0, .slice none 0 0, .slice none 0 0, .int .i64 0, .int .i64 0] 29)).alloc (.cells #[] 21)).heap.size := by first | (rw [HZ0.out]; exact Nat.le_refl _) | (rw [World.size_alloc, HZ0.out]; omega)
  have HB1 : Hid (Below w.heap.size w w1) := Lib.hid ((B0.out.alloc B0.out.size (.cells #[] 21)).trans (hb1.mono (B0.out.alloc B0.out.size (.cells #[] 21)).size))
  have KR1 := Lib.hid ((KR.out.alloc (.cells #[] 21)).below hb1 (KR.out.alloc (.cells #[] 21)).lt)
  have HO1 := Lib.hid (ho.mono (l2 := w.heap.size + 2) (h2 := w1.heap.size) hlo1 (Nat.le_refl _))
  obtain ⟨⟨C0, c0, rfl⟩, ⟨C1, c1, rfl⟩, ⟨C2, c2, rfl⟩, ⟨C3, c3, rfl⟩, ⟨C4, c4, rfl⟩, ⟨C5, c5, rfl⟩, ⟨C6, c6, rfl⟩⟩ := ho.form (S := T) HT.out
  clear ho hb1 KP KR B0 HZ0 hlo1
  obtain ⟨r0, r1, r2, r3, r4, r5, r6, r7, r8, r9⟩ := st_cells KR1.out
  have lr : w.heap.size + 1 < w1.heap.size := KR1.out.lt
  have fr := KR1.out.frozen
  have HOA := Lib.hid (HO1.out.alloc (.cells #[.slice C0 T.data.length c0, .slice C1 T.ret.length c1, .int .i32 T.a, .slice C2 T.mem.length c2, .slice C3 T.cells.length c3, .slice C4 T.vars.length c4, .slice C5 T.out.length c5, .slice C6 T.inp.length c6, .int .i64 T.fault, .int .i64 T.fuel] 29))
  have KRA := Lib.hid (KR1.out.alloc (.cells #[.slice C0 T.data.length c0, .slice C1 T.ret.length c1, .int .i32 T.a, .slice C2 T.mem.length c2, .slice C3 T.cells.length c3, .slice C4 T.vars.length c4, .slice C5 T.out.length c5, .slice C6 T.inp.length c6, .int .i64 T.fault, .int .i64 T.fuel] 29))
  have KOA := Lib.hid (Blk.new w1 29 #[.slice C0 T.data.length c0, .slice C1 T.ret.length c1, .int .i32 T.a, .slice C2 T.mem.length c2, .slice C3 T.cells.length c3, .slice C4 T.vars.length c4, .slice C5 T.out.length c5, .slice C6 T.inp.length c6, .int .i64 T.fault, .int .i64 T.fuel])
  have HBA := Lib.hid (HB1.out.alloc HB1.out.size (.cells #[.slice C0 T.data.length c0, .slice C1 T.ret.length c1, .int .i32 T.a, .slice C2 T.mem.length c2, .slice C3 T.cells.length c3, .slice C4 T.vars.length c4, .slice C5 T.out.length c5, .slice C6 T.inp.length c6, .int .i64 T.fault, .int .i64 T.fuel] 29))
  have nbo : w.heap.size + 1 ≠ w1.heap.size := by omega
  have SRC := Lib.hid (srcB (HV.out _ HBA.out))
  have OD := HOA.out.o
  obtain ⟨s0, s1, s2, s3, s4, s5, s6, s7, s8, s9⟩ := st_cells KOA.out
  have fo := KOA.out.frozen
  go_wp2_with (at_builtin; refine wpList_append_src rfl _ _ 22 rfl (w.heap.size + 2) 5 i0 (.int .u8 0) 1 1 Tryz.underlying22 hi0 hz0 hz1 hz2 rfl (by decide) (.slice C5 T.out.length c5) T.out.length (T.out.map b8v) rfl OD (.slice B l.length b) l.length (l.map b8v) rfl SRC.out (oneB _) (by unfold maxLen; omega) (by omega) (by simp; omega) ?_; intro v' w2 hown halt; refine unstop ?_)
  refine Stop.go ?_
  have hd' : w2.ownsRow (w.heap.size + 2) 5 1 v' (T.out ++ l).length ((T.out ++ l).map b8v) := by
    have e1 : (T.out ++ l).length = T.out.length + l.length := List.length_append
    rw [e1, List.map_append]
    exact hown
  have hw1 : (w1.alloc (.cells #[.slice C0 T.data.length c0, .slice C1 T.ret.length c1, .int .i32 T.a, .slice C2 T.mem.length c2, .slice C3 T.cells.length c3, .slice C4 T.vars.length c4, .slice C5 T.out.length c5, .slice C6 T.inp.length c6, .int .i64 T.fault, .int .i64 T.fuel] 29)).heap.size = w1.heap.size + 1 := by simp
  have hgr : (w1.alloc (.cells #[.slice C0 T.data.length c0, .slice C1 T.ret.length c1, .int .i32 T.a, .slice C2 T.mem.length c2, .slice C3 T.cells.length c3, .slice C4 T.vars.length c4, .slice C5 T.out.length c5, .slice C6 T.inp.length c6, .int .i64 T.fault, .int .i64 T.fuel] 29)).grownBy w2 (Value.slice C5 T.out.length c5).ownBlock := halt.out.grown
  have hwh : ∀ k, v'.ownBlock = some k → (Value.slice C5 T.out.length c5).ownBlock = some k ∨ (w1.alloc (.cells #[.slice C0 T.data.length c0, .slice C1 T.ret.length c1, .int .i32 T.a, .slice C2 T.mem.length c2, .slice C3 T.cells.length c3, .slice C4 T.vars.length c4, .slice C5 T.out.length c5, .slice C6 T.inp.length c6, .int .i64 T.fault, .int .i64 T.fuel] 29)).heap.size ≤ k := halt.out.where_
  have HO2 := Lib.hid (HOA.out.newOut (by rw [hw1]; omega) hd' hgr hwh)
  have gne1 : some (w.heap.size + 1) ≠ (Value.slice C5 T.out.length c5).ownBlock := fun e => by have := own_lt HOA.out.o _ e.symm; omega
  have gne2 : some w1.heap.size ≠ (Value.slice C5 T.out.length c5).ownBlock := fun e => by have := HOA.out.top _ (by simp) _ e.symm; omega
  have KR2 := Lib.hid (KRA.out.grown hgr gne1)
  have KO2 := Lib.hid (KOA.out.grown hgr gne2)
  have HB2 : Hid (Below w.heap.size w w2) := Lib.hid (HBA.out.grown hgr (by rw [hw1]; omega) (fun k hk => by have := own_lt HOA.out.o k hk; omega))
  have sz2 : w1.heap.size + 1 ≤ w2.heap.size := by have := hgr.size; rw [hw1] at this; exact this
  obtain ⟨D, dc, rfl⟩ := own_form hd'
  have hlen : (T.out ++ l).length = T.out.length + l.length := List.length_append
  clear s0 s1 s2 s3 s4 s5 s6 s7 s8 s9 fo
  obtain ⟨q0, q1, q2, q3, q4, q5, q6, q7, q8, q9⟩ := st_cells KO2.out
  have lo_ : w1.heap.size < w2.heap.size := KO2.out.lt
  have fo := KO2.out.frozen
  rw [hlen] at HO2 hd'
  clear hown halt hd' hwh hw1 hgr gne1 gne2 KRA KOA HBA HOA OD SRC
  go_upto_region 5 with (fail)
  have kr := KR2.out.far (p := ⟨w1.heap.size, 6, none⟩) nbo (.slice D (T.out.length + l.length) dc)
  have ko := (show Blk (w2.setCell ⟨w1.heap.size, 6, none⟩ (.slice D (T.out.length + l.length) dc)) w1.heap.size 29 #[.slice C0 T.data.length c0, .slice C1 T.ret.length c1, .int .i32 T.a, .slice C2 T.mem.length c2, .slice C3 T.cells.length c3, .slice C4 T.vars.length c4, .slice D (T.out.length + l.length) dc, .slice C6 T.inp.length c6, .int .i64 T.fault, .int .i64 T.fuel] by have := KO2.out.put 6 (.slice D (T.out.length + l.length) dc); simpa using this)
  have oz := HO2.out.atBox KO2.out (only_setCell (World.grownBy.refl _ _) (p := ⟨w1.heap.size, 6, none⟩) (.inl rfl) (.slice D (T.out.length + l.length) dc)) (by decide) (by decide) (by decide) (by decide) (by decide)
  have bz := HB2.out.setCell (p := ⟨w1.heap.size, 6, none⟩) (show w.heap.size ≤ w1.heap.size by omega) (.slice D (T.out.length + l.length) dc)
  have hz := bz.size
  have hy : w2.heap.size ≤ (w2.setCell ⟨w1.heap.size, 6, none⟩ (.slice D (T.out.length + l.length) dc)).heap.size := by first | (simp only [World.size_alloc]; omega) | (simp only [World.size_setCell]; omega) | (simp only [World.size_alloc, World.size_setCell]; omega)
  generalize (w2.setCell ⟨w1.heap.size, 6, none⟩ (.slice D (T.out.length + l.length) dc)) = wz at kr ko oz bz hz hy ⊢
  obtain ⟨m0, m1, m2, m3, m4, m5, m6, m7, m8, m9⟩ := st_cells ko
  obtain ⟨n0_, n1_, n2_, n3_, n4_, n5_, n6_, n7_, n8_, n9_⟩ := st_cells kr
  have lz1 : w.heap.size + 1 < wz.heap.size := kr.lt
  have lz2 : w1.heap.size < wz.heap.size := ko.lt
  have fz1 := kr.frozen
  have fz2 := ko.frozen
  have KRZ := Lib.hid kr
  have OZ := Lib.hid oz
  have BZ := Lib.hid bz
  clear kr ko oz bz
  go_wp2_with fail
  have kr := KRZ.out
  show bodyPost _ _ _ _ _ (putSt wz (w.heap.size + 1) (.slice C0 T.data.length c0) (.slice C1 T.ret.length c1) (.int .i32 T.a) (.slice C2 T.mem.length c2) (.slice C3 T.cells.length c3) (.slice C4 T.vars.length c4) (.slice D (T.out.length + l.length) dc) (.slice C6 T.inp.length c6) (.int .i64 T.fault) (.int .i64 T.fuel))
  have y1 := putSt_blk kr (.slice C0 T.data.length c0) (.slice C1 T.ret.length c1) (.int .i32 T.a) (.slice C2 T.mem.length c2) (.slice C3 T.cells.length c3) (.slice C4 T.vars.length c4) (.slice D (T.out.length + l.length) dc) (.slice C6 T.inp.length c6) (.int .i64 T.fault) (.int .i64 T.fuel)
  have y2 := (BZ.out).grown (putSt_only wz (w.heap.size + 1) (.slice C0 T.data.length c0) (.slice C1 T.ret.length c1) (.int .i32 T.a) (.slice C2 T.mem.length c2) (.slice C3 T.cells.length c3) (.slice C4 T.vars.length c4) (.slice D (T.out.length + l.length) dc) (.slice C6 T.inp.length c6) (.int .i64 T.fault) (.int .i64 T.fuel)) (BZ.out).size (fun k hk => by injection hk with hk; omega)
  have y3 := OwnSt.setSt OZ.out (g := w.heap.size + 1) (.inl (by omega)) (.slice C0 T.data.length c0) (.slice C1 T.ret.length c1) (.int .i32 T.a) (.slice C2 T.mem.length c2) (.slice C3 T.cells.length c3) (.slice C4 T.vars.length c4) (.slice D (T.out.length + l.length) dc) (.slice C6 T.inp.length c6) (.int .i64 T.fault) (.int .i64 T.fuel)
  have y4 := putSt_size wz (w.heap.size + 1) (.slice C0 T.data.length c0) (.slice C1 T.ret.length c1) (.int .i32 T.a) (.slice C2 T.mem.length c2) (.slice C3 T.cells.length c3) (.slice C4 T.vars.length c4) (.slice D (T.out.length + l.length) dc) (.slice C6 T.inp.length c6) (.int .i64 T.fault) (.int .i64 T.fuel)
  generalize putSt wz (w.heap.size + 1) (.slice C0 T.data.length c0) (.slice C1 T.ret.length c1) (.int .i32 T.a) (.slice C2 T.mem.length c2) (.slice C3 T.cells.length c3) (.slice C4 T.vars.length c4) (.slice D (T.out.length + l.length) dc) (.slice C6 T.inp.length c6) (.int .i64 T.fault) (.int .i64 T.fuel) = W at y1 y2 y3 y4 ⊢
  obtain ⟨z0, z1, z2, z3, z4, z5, z6, z7, z8, z9⟩ := st_cells y1
  exact bodyPost_ret (v := .agg #[.slice C0 T.data.length c0, .slice C1 T.ret.length c1, .int .i32 T.a, .slice C2 T.mem.length c2, .slice C3 T.cells.length c3, .slice C4 T.vars.length c4, .slice D (T.out.length + l.length) dc, .slice C6 T.inp.length c6, .int .i64 T.fault, .int .i64 T.fuel]) (by simp [results, Tryz.results107, z0, z1, z2, z3, z4, z5, z6, z7, z8, z9, go_sem]) rfl (newst_of y3 (by omega) (by first | (rw [y4]; simp; done) | (rw [y4]; simp; omega) | omega) y2)
end Go.Proofs.YtdiaiflleiebfaaGreatDoor
