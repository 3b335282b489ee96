/-
  spec.l08Fetch: @.
  What becomes of a state one of whose rows is changed.
-/
import Derived.Test.YtdiaiflleiebfaaGreatDoorDO14
import Derived.IntWalk
import Derived.RegionTactic
import Derived.ChangeAlike
import Derived.Deep.RegionWith
import Derived.Test.YtdiaiflleiebfaaGreatDoorDO9
namespace Go.Proofs.YtdiaiflleiebfaaGreatDoor
open Go.RowKit Go

set_option maxRecDepth 100000 in
set_option maxHeartbeats 3000000 in
theorem fetch_mem (d r m c v o i : Value) (S : S8) (j : Nat) (hj : j ≤ 31) (hs : totSt S ≤ 2500000) (w : World) (hr : RdSt w d r m c v o i S) (ht1 : 1 ≤ S.data.length) (hdl : S.data.length ≤ 16) (hm : S.mem.length = 32) :
    Calls Tryz.prog 105 #[.agg #[d, r, .int .i32 S.a, m, c, v, o, i, .int .i64 S.fault, .int .i64 S.fuel], .int .i32 (j : Int)] w (NewSt w (fin8 S (put8 S 1 [S.mem.getD j 0]))) := by
  have hform := hr.form
  obtain ⟨⟨A0, a0, rfl⟩, ⟨A1, a1, rfl⟩, ⟨A2, a2, rfl⟩, ⟨A3, a3, rfl⟩, ⟨A4, a4, rfl⟩, ⟨A5, a5, rfl⟩, ⟨A6, a6, rfl⟩⟩ := hform
  have e1 : (w.alloc (.cells #[.slice A0 S.data.length a0, .slice A1 S.ret.length a1, .int .i32 S.a, .slice A2 S.mem.length a2, .slice A3 S.cells.length a3, .slice A4 S.vars.length a4, .slice A5 S.out.length a5, .slice A6 S.inp.length a6, .int .i64 S.fault, .int .i64 S.fuel] 29)).heap.size = w.heap.size + 1 := by simp
  have KP := Lib.hid (((Blk.new w 29 #[.slice A0 S.data.length a0, .slice A1 S.ret.length a1, .int .i32 S.a, .slice A2 S.mem.length a2, .slice A3 S.cells.length a3, .slice A4 S.vars.length a4, .slice A5 S.out.length a5, .slice A6 S.inp.length a6, .int .i64 S.fault, .int .i64 S.fuel]).alloc (.cells #[.slice none 0 0, .slice none 0 0, .int .i32 0, .slice none 0 0, .slice none 0 0, .slice none 0 0, .slice none 0 0, .slice none 0 0, .int .i64 0, .int .i64 0] 29)))
  have KR : Hid (Blk ((w.alloc (.cells #[.slice A0 S.data.length a0, .slice A1 S.ret.length a1, .int .i32 S.a, .slice A2 S.mem.length a2, .slice A3 S.cells.length a3, .slice A4 S.vars.length a4, .slice A5 S.out.length a5, .slice A6 S.inp.length a6, .int .i64 S.fault, .int .i64 S.fuel] 29)).alloc (.cells #[.slice none 0 0, .slice none 0 0, .int .i32 0, .slice none 0 0, .slice none 0 0, .slice none 0 0, .slice none 0 0, .slice none 0 0, .int .i64 0, .int .i64 0] 29)) (w.heap.size + 1) 29 #[.slice none 0 0, .slice none 0 0, .int .i32 0, .slice none 0 0, .slice none 0 0, .slice none 0 0, .slice none 0 0, .slice none 0 0, .int .i64 0, .int .i64 0]) := Lib.hid (by have := Blk.new (w.alloc (.cells #[.slice A0 S.data.length a0, .slice A1 S.ret.length a1, .int .i32 S.a, .slice A2 S.mem.length a2, .slice A3 S.cells.length a3, .slice A4 S.vars.length a4, .slice A5 S.out.length a5, .slice A6 S.inp.length a6, .int .i64 S.fault, .int .i64 S.fuel] 29)) 29 #[.slice none 0 0, .slice none 0 0, .int .i32 0, .slice none 0 0, .slice none 0 0, .slice none 0 0, .slice none 0 0, .slice none 0 0, .int .i64 0, .int .i64 0]; rw [e1] at this; exact this)
  have B0 : Hid (Below w.heap.size w ((w.alloc (.cells #[.slice A0 S.data.length a0, .slice A1 S.ret.length a1, .int .i32 S.a, .slice A2 S.mem.length a2, .slice A3 S.cells.length a3, .slice A4 S.vars.length a4, .slice A5 S.out.length a5, .slice A6 S.inp.length a6, .int .i64 S.fault, .int .i64 S.fuel] 29)).alloc (.cells #[.slice none 0 0, .slice none 0 0, .int .i32 0, .slice none 0 0, .slice none 0 0, .slice none 0 0, .slice none 0 0, .slice none 0 0, .int .i64 0, .int .i64 0] 29))) := Lib.hid (below_alloc2 w _ _)
  have Z0 : ((w.alloc (.cells #[.slice A0 S.data.length a0, .slice A1 S.ret.length a1, .int .i32 S.a, .slice A2 S.mem.length a2, .slice A3 S.cells.length a3, .slice A4 S.vars.length a4, .slice A5 S.out.length a5, .slice A6 S.inp.length a6, .int .i64 S.fault, .int .i64 S.fuel] 29)).alloc (.cells #[.slice none 0 0, .slice none 0 0, .int .i32 0, .slice none 0 0, .slice none 0 0, .slice none 0 0, .slice none 0 0, .slice none 0 0, .int .i64 0, .int .i64 0] 29)).heap.size = w.heap.size + 2 := by simp
  have HZ0 := Lib.hid Z0
  clear Z0 e1
  have HPL := Lib.hid (fun W (h : Below w.heap.size w W) => place_mem _ _ _ _ _ _ _ S j hj W (hr.below h))
  have hlt := ht1
  obtain ⟨u, hu⟩ : ∃ u, S.mem.getD j 0 = u := ⟨_, rfl⟩
  rw [hu]
  have HPUT := Lib.hid (fun lv W (h : Below w.heap.size w W) (hv : RdI W lv [u]) => spec_put _ _ _ _ _ _ _ S 1 lv [u] hlt (by simp) hdl (by omega) W (hr.below h) hv)
  obtain ⟨T, hT⟩ : ∃ T, fin8 S (put8 S 1 [u]) = T := ⟨_, rfl⟩
  have HT : Hid (totSt T ≤ 4000000) := Lib.hid (by rw [← hT]; exact put8_tot hs)
  rw [hT] at HPUT ⊢
  have HM : Hid (∀ W, Below w.heap.size w W → ∃ a, A2 = some a ∧ a.block < W.heap.size ∧ W.cell? (a.add j) = some (.int .i32 u)) := Lib.hid (fun W h => by
    obtain ⟨A, cp, e, -, hc⟩ := (hr.below h).m
    injection e with e1 e2 e3
    subst e1
    obtain ⟨a, h1, h2, h3⟩ := hc j (by omega)
    refine ⟨a, h1, h2, ?_⟩
    rw [h3, ← hu]
    simp [List.getD, List.getElem?_eq_getElem (show j < S.mem.length by omega), iv])
  have j1 : (0 : Int) ≤ (j : Int) := by omega
  have j2 : (j : Int) < 32 := by omega
  have j3 : ¬ (j : Int) < 0 := by omega
  have j4 : (j : Int) < (S.mem.length : Int) := by omega
  clear hr hs hlt hT hu hj hm ht1 hdl
  go_enter Tryz.func105, Tryz.ntmps105
  go_wp2_with fail
  refine (HPL.out _ B0.out).mono ?_
  rintro e w1 ⟨rfl, hb1⟩
  have sz1 : w.heap.size + 2 ≤ w1.heap.size := by have := hb1.size; rw [HZ0.out] at this; exact this
  have HB1 : Hid (Below w.heap.size w w1) := Lib.hid (B0.out.trans (hb1.mono B0.out.size))
  have KP1 := Lib.hid (KP.out.below hb1 KP.out.lt)
  have KR1 := Lib.hid (KR.out.below hb1 KR.out.lt)
  clear hb1 KP KR B0 HZ0
  obtain ⟨p0, p1, p2, p3, p4, p5, p6, p7, p8, p9⟩ := st_cells KP1.out
  obtain ⟨r0, r1, r2, r3, r4, r5, r6, r7, r8, r9⟩ := st_cells KR1.out
  have lp : w.heap.size < w1.heap.size := KP1.out.lt
  have lr : w.heap.size + 1 < w1.heap.size := KR1.out.lt
  have fp := KP1.out.frozen
  have fr := KR1.out.frozen
  obtain ⟨am, rfl, lam, cam⟩ := HM.out w1 HB1.out
  clear HM
  go_wp2_with fail
  go_region_with (go_at_call 42; go_loud (refine (HPUT.out _ _ ((HB1.out.alloc HB1.out.size (.cells #[.int .i32 u] 21)).drew) (rdI_drew (rdI_new w1 21 [u] (by simp)))).mono ?_); rintro e w2 ⟨v0, v1, v2, v3, v4, v5, v6, rfl, ho, hb2⟩; have hsz2 : (w1.alloc (.cells #[.int .i32 u] 21)).heap.size ≤ w2.heap.size := hb2.size; rw [World.size_alloc] at hsz2; have sz2 : w.heap.size + 2 ≤ w2.heap.size := (by omega); have HB2 : Hid (Below w.heap.size w w2) := Lib.hid ((HB1.out.alloc HB1.out.size (.cells #[.int .i32 u] 21)).drew.trans (hb2.mono (HB1.out.alloc HB1.out.size (.cells #[.int .i32 u] 21)).drew.size)); have hlo2 : w.heap.size + 2 ≤ (w1.alloc (.cells #[.int .i32 u] 21)).drew.heap.size := (by show w.heap.size + 2 ≤ (w1.alloc (.cells #[.int .i32 u] 21)).heap.size; rw [World.size_alloc]; omega); have KR2 := Lib.hid ((blk_drew (KR1.out.alloc (.cells #[.int .i32 u] 21))).below hb2 (blk_drew (KR1.out.alloc (.cells #[.int .i32 u] 21))).lt); have HO2 := Lib.hid (ho.mono (l2 := w.heap.size + 2) (h2 := w2.heap.size) hlo2 (Nat.le_refl _)); obtain ⟨⟨C0, c0, rfl⟩, ⟨C1, c1, rfl⟩, ⟨C2, c2, rfl⟩, ⟨C3, c3, rfl⟩, ⟨C4, c4, rfl⟩, ⟨C5, c5, rfl⟩, ⟨C6, c6, rfl⟩⟩ := ho.form (S := T) HT.out; clear ho hb2 hlo2 hsz2 p0 p1 p2 p3 p4 p5 p6 p7 p8 p9 r0 r1 r2 r3 r4 r5 r6 r7 r8 r9 lp lr fp fr KP1 KR1 HB1; obtain ⟨r0, r1, r2, r3, r4, r5, r6, r7, r8, r9⟩ := st_cells KR2.out; have lr : w.heap.size + 1 < w2.heap.size := KR2.out.lt; have fr := KR2.out.frozen)
  all_goals
    go_wp2_with fail
    have kr := KR2.out
    show bodyPost _ _ _ _ _ (putSt w2 (w.heap.size + 1) (.slice C0 T.data.length c0) (.slice C1 T.ret.length c1) (.int .i32 T.a) (.slice C2 T.mem.length c2) (.slice C3 T.cells.length c3) (.slice C4 T.vars.length c4) (.slice C5 T.out.length c5) (.slice C6 T.inp.length c6) (.int .i64 T.fault) (.int .i64 T.fuel))
    have y1 := putSt_blk kr (.slice C0 T.data.length c0) (.slice C1 T.ret.length c1) (.int .i32 T.a) (.slice C2 T.mem.length c2) (.slice C3 T.cells.length c3) (.slice C4 T.vars.length c4) (.slice C5 T.out.length c5) (.slice C6 T.inp.length c6) (.int .i64 T.fault) (.int .i64 T.fuel)
    have y2 := (HB2.out).grown (putSt_only w2 (w.heap.size + 1) (.slice C0 T.data.length c0) (.slice C1 T.ret.length c1) (.int .i32 T.a) (.slice C2 T.mem.length c2) (.slice C3 T.cells.length c3) (.slice C4 T.vars.length c4) (.slice C5 T.out.length c5) (.slice C6 T.inp.length c6) (.int .i64 T.fault) (.int .i64 T.fuel)) (HB2.out).size (fun k hk => by injection hk with hk; omega)
    have y3 := OwnSt.setSt HO2.out (g := w.heap.size + 1) (.inl (by omega)) (.slice C0 T.data.length c0) (.slice C1 T.ret.length c1) (.int .i32 T.a) (.slice C2 T.mem.length c2) (.slice C3 T.cells.length c3) (.slice C4 T.vars.length c4) (.slice C5 T.out.length c5) (.slice C6 T.inp.length c6) (.int .i64 T.fault) (.int .i64 T.fuel)
    have y4 := putSt_size w2 (w.heap.size + 1) (.slice C0 T.data.length c0) (.slice C1 T.ret.length c1) (.int .i32 T.a) (.slice C2 T.mem.length c2) (.slice C3 T.cells.length c3) (.slice C4 T.vars.length c4) (.slice C5 T.out.length c5) (.slice C6 T.inp.length c6) (.int .i64 T.fault) (.int .i64 T.fuel)
    generalize putSt w2 (w.heap.size + 1) (.slice C0 T.data.length c0) (.slice C1 T.ret.length c1) (.int .i32 T.a) (.slice C2 T.mem.length c2) (.slice C3 T.cells.length c3) (.slice C4 T.vars.length c4) (.slice C5 T.out.length c5) (.slice C6 T.inp.length c6) (.int .i64 T.fault) (.int .i64 T.fuel) = W at y1 y2 y3 y4 ⊢
    obtain ⟨z0, z1, z2, z3, z4, z5, z6, z7, z8, z9⟩ := st_cells y1
    exact bodyPost_ret (v := .agg #[.slice C0 T.data.length c0, .slice C1 T.ret.length c1, .int .i32 T.a, .slice C2 T.mem.length c2, .slice C3 T.cells.length c3, .slice C4 T.vars.length c4, .slice C5 T.out.length c5, .slice C6 T.inp.length c6, .int .i64 T.fault, .int .i64 T.fuel]) (by simp [results, Tryz.results105, z0, z1, z2, z3, z4, z5, z6, z7, z8, z9, go_sem]) rfl (newst_of y3 (by omega) (by first | (rw [y4]; simp; done) | (rw [y4]; simp; omega) | omega) y2)
set_option maxRecDepth 100000 in
set_option maxHeartbeats 3000000 in
theorem fetch_cell (d r m c v o i : Value) (S : S8) (j : Nat) (hj : j < S.cells.length) (hc : S.cells.length ≤ 2000) (hs : totSt S ≤ 2500000) (w : World) (hr : RdSt w d r m c v o i S) (ht1 : 1 ≤ S.data.length) (hdl : S.data.length ≤ 16) :
    Calls Tryz.prog 105 #[.agg #[d, r, .int .i32 S.a, m, c, v, o, i, .int .i64 S.fault, .int .i64 S.fuel], .int .i32 (1024 + (j : Int))] w (NewSt w (fin8 S (put8 S 1 [wrap32 (S.cells.getD j 0 : Nat)]))) := by
  have hform := hr.form
  obtain ⟨⟨A0, a0, rfl⟩, ⟨A1, a1, rfl⟩, ⟨A2, a2, rfl⟩, ⟨A3, a3, rfl⟩, ⟨A4, a4, rfl⟩, ⟨A5, a5, rfl⟩, ⟨A6, a6, rfl⟩⟩ := hform
  have e1 : (w.alloc (.cells #[.slice A0 S.data.length a0, .slice A1 S.ret.length a1, .int .i32 S.a, .slice A2 S.mem.length a2, .slice A3 S.cells.length a3, .slice A4 S.vars.length a4, .slice A5 S.out.length a5, .slice A6 S.inp.length a6, .int .i64 S.fault, .int .i64 S.fuel] 29)).heap.size = w.heap.size + 1 := by simp
  have KP := Lib.hid (((Blk.new w 29 #[.slice A0 S.data.length a0, .slice A1 S.ret.length a1, .int .i32 S.a, .slice A2 S.mem.length a2, .slice A3 S.cells.length a3, .slice A4 S.vars.length a4, .slice A5 S.out.length a5, .slice A6 S.inp.length a6, .int .i64 S.fault, .int .i64 S.fuel]).alloc (.cells #[.slice none 0 0, .slice none 0 0, .int .i32 0, .slice none 0 0, .slice none 0 0, .slice none 0 0, .slice none 0 0, .slice none 0 0, .int .i64 0, .int .i64 0] 29)))
  have KR : Hid (Blk ((w.alloc (.cells #[.slice A0 S.data.length a0, .slice A1 S.ret.length a1, .int .i32 S.a, .slice A2 S.mem.length a2, .slice A3 S.cells.length a3, .slice A4 S.vars.length a4, .slice A5 S.out.length a5, .slice A6 S.inp.length a6, .int .i64 S.fault, .int .i64 S.fuel] 29)).alloc (.cells #[.slice none 0 0, .slice none 0 0, .int .i32 0, .slice none 0 0, .slice none 0 0, .slice none 0 0, .slice none 0 0, .slice none 0 0, .int .i64 0, .int .i64 0] 29)) (w.heap.size + 1) 29 #[.slice none 0 0, .slice none 0 0, .int .i32 0, .slice none 0 0, .slice none 0 0, .slice none 0 0, .slice none 0 0, .slice none 0 0, .int .i64 0, .int .i64 0]) := Lib.hid (by have := Blk.new (w.alloc (.cells #[.slice A0 S.data.length a0, .slice A1 S.ret.length a1, .int .i32 S.a, .slice A2 S.mem.length a2, .slice A3 S.cells.length a3, .slice A4 S.vars.length a4, .slice A5 S.out.length a5, .slice A6 S.inp.length a6, .int .i64 S.fault, .int .i64 S.fuel] 29)) 29 #[.slice none 0 0, .slice none 0 0, .int .i32 0, .slice none 0 0, .slice none 0 0, .slice none 0 0, .slice none 0 0, .slice none 0 0, .int .i64 0, .int .i64 0]; rw [e1] at this; exact this)
  have B0 : Hid (Below w.heap.size w ((w.alloc (.cells #[.slice A0 S.data.length a0, .slice A1 S.ret.length a1, .int .i32 S.a, .slice A2 S.mem.length a2, .slice A3 S.cells.length a3, .slice A4 S.vars.length a4, .slice A5 S.out.length a5, .slice A6 S.inp.length a6, .int .i64 S.fault, .int .i64 S.fuel] 29)).alloc (.cells #[.slice none 0 0, .slice none 0 0, .int .i32 0, .slice none 0 0, .slice none 0 0, .slice none 0 0, .slice none 0 0, .slice none 0 0, .int .i64 0, .int .i64 0] 29))) := Lib.hid (below_alloc2 w _ _)
  have Z0 : ((w.alloc (.cells #[.slice A0 S.data.length a0, .slice A1 S.ret.length a1, .int .i32 S.a, .slice A2 S.mem.length a2, .slice A3 S.cells.length a3, .slice A4 S.vars.length a4, .slice A5 S.out.length a5, .slice A6 S.inp.length a6, .int .i64 S.fault, .int .i64 S.fuel] 29)).alloc (.cells #[.slice none 0 0, .slice none 0 0, .int .i32 0, .slice none 0 0, .slice none 0 0, .slice none 0 0, .slice none 0 0, .slice none 0 0, .int .i64 0, .int .i64 0] 29)).heap.size = w.heap.size + 2 := by simp
  have HZ0 := Lib.hid Z0
  clear Z0 e1
  have HPL := Lib.hid (fun W (h : Below w.heap.size w W) => place_cell _ _ _ _ _ _ _ S j hj hc W (hr.below h))
  have hlt := ht1
  obtain ⟨u, hu⟩ : ∃ u, S.cells.getD j 0 = u := ⟨_, rfl⟩
  rw [hu]
  obtain ⟨z, hz⟩ : ∃ z, wrap32 (u : Int) = z := ⟨_, rfl⟩
  rw [hz]
  have HPUT := Lib.hid (fun lv W (h : Below w.heap.size w W) (hv : RdI W lv [z]) => spec_put _ _ _ _ _ _ _ S 1 lv [z] hlt (by simp) hdl (by omega) W (hr.below h) hv)
  obtain ⟨T, hT⟩ : ∃ T, fin8 S (put8 S 1 [z]) = T := ⟨_, rfl⟩
  have HT : Hid (totSt T ≤ 4000000) := Lib.hid (by rw [← hT]; exact put8_tot hs)
  rw [hT] at HPUT ⊢
  have HM : Hid (∀ W, Below w.heap.size w W → ∃ a, A3 = some a ∧ a.block < W.heap.size ∧ W.cell? (a.add j) = some (.int .u32 (u : Int))) := Lib.hid (fun W h => by
    obtain ⟨A, cp, e, -, hc⟩ := (hr.below h).c
    injection e with e1 e2 e3
    subst e1
    obtain ⟨a, h1, h2, h3⟩ := hc j (by omega)
    refine ⟨a, h1, h2, ?_⟩
    rw [h3, ← hu]
    simp [List.getD, List.getElem?_eq_getElem hj, u32v])
  have j1 : (0 : Int) ≤ (j : Int) := by omega
  have j2 : (j : Int) ≤ 2000 := by omega
  have j3 : ¬ 32 + (j : Int) < 0 := by omega
  have j4 : (j : Int) < (S.cells.length : Int) := by omega
  have j5 : ¬ 32 + (j : Int) < 32 := by omega
  have j6 : 32 + (j : Int) - 32 = (j : Int) := by omega
  have wz : IntKind.i64.wrap (32 + (j : Int) - 32) = (j : Int) := by rw [j6]; exact IntWalk.i64_in _ (by omega)
  have wk : IntKind.i64.wrap (j : Int) = (j : Int) := IntWalk.i64_in _ (by omega)
  have wu : IntKind.i32.wrap (u : Int) = z := by rw [IntWalk.i32_left]; exact hz
  clear hr hs hlt hT hu hj hc ht1 hdl
  go_enter Tryz.func105, Tryz.ntmps105
  go_wp2_with fail
  refine (HPL.out _ B0.out).mono ?_
  rintro e w1 ⟨rfl, hb1⟩
  have sz1 : w.heap.size + 2 ≤ w1.heap.size := by have := hb1.size; rw [HZ0.out] at this; exact this
  have HB1 : Hid (Below w.heap.size w w1) := Lib.hid (B0.out.trans (hb1.mono B0.out.size))
  have KP1 := Lib.hid (KP.out.below hb1 KP.out.lt)
  have KR1 := Lib.hid (KR.out.below hb1 KR.out.lt)
  clear hb1 KP KR B0 HZ0
  obtain ⟨p0, p1, p2, p3, p4, p5, p6, p7, p8, p9⟩ := st_cells KP1.out
  obtain ⟨r0, r1, r2, r3, r4, r5, r6, r7, r8, r9⟩ := st_cells KR1.out
  have lp : w.heap.size < w1.heap.size := KP1.out.lt
  have lr : w.heap.size + 1 < w1.heap.size := KR1.out.lt
  have fp := KP1.out.frozen
  have fr := KR1.out.frozen
  obtain ⟨am, rfl, lam, cam⟩ := HM.out w1 HB1.out
  clear HM
  go_wp2_with fail
  go_region_with (go_at_call 42; go_loud (refine (HPUT.out _ _ ((HB1.out.alloc HB1.out.size (.cells #[.int .i32 z] 21)).drew) (rdI_drew (rdI_new w1 21 [z] (by simp)))).mono ?_); rintro e w2 ⟨v0, v1, v2, v3, v4, v5, v6, rfl, ho, hb2⟩; have hsz2 : (w1.alloc (.cells #[.int .i32 z] 21)).heap.size ≤ w2.heap.size := hb2.size; rw [World.size_alloc] at hsz2; have sz2 : w.heap.size + 2 ≤ w2.heap.size := (by omega); have HB2 : Hid (Below w.heap.size w w2) := Lib.hid ((HB1.out.alloc HB1.out.size (.cells #[.int .i32 z] 21)).drew.trans (hb2.mono (HB1.out.alloc HB1.out.size (.cells #[.int .i32 z] 21)).drew.size)); have hlo2 : w.heap.size + 2 ≤ (w1.alloc (.cells #[.int .i32 z] 21)).drew.heap.size := (by show w.heap.size + 2 ≤ (w1.alloc (.cells #[.int .i32 z] 21)).heap.size; rw [World.size_alloc]; omega); have KR2 := Lib.hid ((blk_drew (KR1.out.alloc (.cells #[.int .i32 z] 21))).below hb2 (blk_drew (KR1.out.alloc (.cells #[.int .i32 z] 21))).lt); have HO2 := Lib.hid (ho.mono (l2 := w.heap.size + 2) (h2 := w2.heap.size) hlo2 (Nat.le_refl _)); obtain ⟨⟨C0, c0, rfl⟩, ⟨C1, c1, rfl⟩, ⟨C2, c2, rfl⟩, ⟨C3, c3, rfl⟩, ⟨C4, c4, rfl⟩, ⟨C5, c5, rfl⟩, ⟨C6, c6, rfl⟩⟩ := ho.form (S := T) HT.out; clear ho hb2 hlo2 hsz2 p0 p1 p2 p3 p4 p5 p6 p7 p8 p9 r0 r1 r2 r3 r4 r5 r6 r7 r8 r9 lp lr fp fr KP1 KR1 HB1; obtain ⟨r0, r1, r2, r3, r4, r5, r6, r7, r8, r9⟩ := st_cells KR2.out; have lr : w.heap.size + 1 < w2.heap.size := KR2.out.lt; have fr := KR2.out.frozen)
  all_goals
    go_wp2_with fail
    have kr := KR2.out
    show bodyPost _ _ _ _ _ (putSt w2 (w.heap.size + 1) (.slice C0 T.data.length c0) (.slice C1 T.ret.length c1) (.int .i32 T.a) (.slice C2 T.mem.length c2) (.slice C3 T.cells.length c3) (.slice C4 T.vars.length c4) (.slice C5 T.out.length c5) (.slice C6 T.inp.length c6) (.int .i64 T.fault) (.int .i64 T.fuel))
    have y1 := putSt_blk kr (.slice C0 T.data.length c0) (.slice C1 T.ret.length c1) (.int .i32 T.a) (.slice C2 T.mem.length c2) (.slice C3 T.cells.length c3) (.slice C4 T.vars.length c4) (.slice C5 T.out.length c5) (.slice C6 T.inp.length c6) (.int .i64 T.fault) (.int .i64 T.fuel)
    have y2 := (HB2.out).grown (putSt_only w2 (w.heap.size + 1) (.slice C0 T.data.length c0) (.slice C1 T.ret.length c1) (.int .i32 T.a) (.slice C2 T.mem.length c2) (.slice C3 T.cells.length c3) (.slice C4 T.vars.length c4) (.slice C5 T.out.length c5) (.slice C6 T.inp.length c6) (.int .i64 T.fault) (.int .i64 T.fuel)) (HB2.out).size (fun k hk => by injection hk with hk; omega)
    have y3 := OwnSt.setSt HO2.out (g := w.heap.size + 1) (.inl (by omega)) (.slice C0 T.data.length c0) (.slice C1 T.ret.length c1) (.int .i32 T.a) (.slice C2 T.mem.length c2) (.slice C3 T.cells.length c3) (.slice C4 T.vars.length c4) (.slice C5 T.out.length c5) (.slice C6 T.inp.length c6) (.int .i64 T.fault) (.int .i64 T.fuel)
    have y4 := putSt_size w2 (w.heap.size + 1) (.slice C0 T.data.length c0) (.slice C1 T.ret.length c1) (.int .i32 T.a) (.slice C2 T.mem.length c2) (.slice C3 T.cells.length c3) (.slice C4 T.vars.length c4) (.slice C5 T.out.length c5) (.slice C6 T.inp.length c6) (.int .i64 T.fault) (.int .i64 T.fuel)
    generalize putSt w2 (w.heap.size + 1) (.slice C0 T.data.length c0) (.slice C1 T.ret.length c1) (.int .i32 T.a) (.slice C2 T.mem.length c2) (.slice C3 T.cells.length c3) (.slice C4 T.vars.length c4) (.slice C5 T.out.length c5) (.slice C6 T.inp.length c6) (.int .i64 T.fault) (.int .i64 T.fuel) = W at y1 y2 y3 y4 ⊢
    obtain ⟨z0, z1, z2, z3, z4, z5, z6, z7, z8, z9⟩ := st_cells y1
    exact bodyPost_ret (v := .agg #[.slice C0 T.data.length c0, .slice C1 T.ret.length c1, .int .i32 T.a, .slice C2 T.mem.length c2, .slice C3 T.cells.length c3, .slice C4 T.vars.length c4, .slice C5 T.out.length c5, .slice C6 T.inp.length c6, .int .i64 T.fault, .int .i64 T.fuel]) (by simp [results, Tryz.results105, z0, z1, z2, z3, z4, z5, z6, z7, z8, z9, go_sem]) rfl (newst_of y3 (by omega) (by first | (rw [y4]; simp; done) | (rw [y4]; simp; omega) | omega) y2)
set_option maxRecDepth 100000 in
set_option maxHeartbeats 3000000 in
theorem fetch_none (d r m c v o i : Value) (S : S8) (y : Int) (hy0 : -2147483648 ≤ y) (hy1 : y ≤ 2147483647) (h0 : ¬ ((0 : Int) ≤ y ∧ y ≤ 31)) (h1 : ¬ ((1024 : Int) ≤ y ∧ y < 1024 + (S.cells.length : Int))) (hc : S.cells.length ≤ 2000) (hs : totSt S ≤ 2500000) (w : World) (hr : RdSt w d r m c v o i S) :
    Calls Tryz.prog 105 #[.agg #[d, r, .int .i32 S.a, m, c, v, o, i, .int .i64 S.fault, .int .i64 S.fuel], .int .i32 y] w (NewSt w { S with fault := 4 }) := by
  have hform := hr.form
  obtain ⟨⟨A0, a0, rfl⟩, ⟨A1, a1, rfl⟩, ⟨A2, a2, rfl⟩, ⟨A3, a3, rfl⟩, ⟨A4, a4, rfl⟩, ⟨A5, a5, rfl⟩, ⟨A6, a6, rfl⟩⟩ := hform
  have e1 : (w.alloc (.cells #[.slice A0 S.data.length a0, .slice A1 S.ret.length a1, .int .i32 S.a, .slice A2 S.mem.length a2, .slice A3 S.cells.length a3, .slice A4 S.vars.length a4, .slice A5 S.out.length a5, .slice A6 S.inp.length a6, .int .i64 S.fault, .int .i64 S.fuel] 29)).heap.size = w.heap.size + 1 := by simp
  have KP := Lib.hid (((Blk.new w 29 #[.slice A0 S.data.length a0, .slice A1 S.ret.length a1, .int .i32 S.a, .slice A2 S.mem.length a2, .slice A3 S.cells.length a3, .slice A4 S.vars.length a4, .slice A5 S.out.length a5, .slice A6 S.inp.length a6, .int .i64 S.fault, .int .i64 S.fuel]).alloc (.cells #[.slice none 0 0, .slice none 0 0, .int .i32 0, .slice none 0 0, .slice none 0 0, .slice none 0 0, .slice none 0 0, .slice none 0 0, .int .i64 0, .int .i64 0] 29)))
  have KR : Hid (Blk ((w.alloc (.cells #[.slice A0 S.data.length a0, .slice A1 S.ret.length a1, .int .i32 S.a, .slice A2 S.mem.length a2, .slice A3 S.cells.length a3, .slice A4 S.vars.length a4, .slice A5 S.out.length a5, .slice A6 S.inp.length a6, .int .i64 S.fault, .int .i64 S.fuel] 29)).alloc (.cells #[.slice none 0 0, .slice none 0 0, .int .i32 0, .slice none 0 0, .slice none 0 0, .slice none 0 0, .slice none 0 0, .slice none 0 0, .int .i64 0, .int .i64 0] 29)) (w.heap.size + 1) 29 #[.slice none 0 0, .slice none 0 0, .int .i32 0, .slice none 0 0, .slice none 0 0, .slice none 0 0, .slice none 0 0, .slice none 0 0, .int .i64 0, .int .i64 0]) := Lib.hid (by have := Blk.new (w.alloc (.cells #[.slice A0 S.data.length a0, .slice A1 S.ret.length a1, .int .i32 S.a, .slice A2 S.mem.length a2, .slice A3 S.cells.length a3, .slice A4 S.vars.length a4, .slice A5 S.out.length a5, .slice A6 S.inp.length a6, .int .i64 S.fault, .int .i64 S.fuel] 29)) 29 #[.slice none 0 0, .slice none 0 0, .int .i32 0, .slice none 0 0, .slice none 0 0, .slice none 0 0, .slice none 0 0, .slice none 0 0, .int .i64 0, .int .i64 0]; rw [e1] at this; exact this)
  have B0 : Hid (Below w.heap.size w ((w.alloc (.cells #[.slice A0 S.data.length a0, .slice A1 S.ret.length a1, .int .i32 S.a, .slice A2 S.mem.length a2, .slice A3 S.cells.length a3, .slice A4 S.vars.length a4, .slice A5 S.out.length a5, .slice A6 S.inp.length a6, .int .i64 S.fault, .int .i64 S.fuel] 29)).alloc (.cells #[.slice none 0 0, .slice none 0 0, .int .i32 0, .slice none 0 0, .slice none 0 0, .slice none 0 0, .slice none 0 0, .slice none 0 0, .int .i64 0, .int .i64 0] 29))) := Lib.hid (below_alloc2 w _ _)
  have Z0 : ((w.alloc (.cells #[.slice A0 S.data.length a0, .slice A1 S.ret.length a1, .int .i32 S.a, .slice A2 S.mem.length a2, .slice A3 S.cells.length a3, .slice A4 S.vars.length a4, .slice A5 S.out.length a5, .slice A6 S.inp.length a6, .int .i64 S.fault, .int .i64 S.fuel] 29)).alloc (.cells #[.slice none 0 0, .slice none 0 0, .int .i32 0, .slice none 0 0, .slice none 0 0, .slice none 0 0, .slice none 0 0, .slice none 0 0, .int .i64 0, .int .i64 0] 29)).heap.size = w.heap.size + 2 := by simp
  have HZ0 := Lib.hid Z0
  clear Z0 e1
  have HPL := Lib.hid (fun W (h : Below w.heap.size w W) => place_none _ _ _ _ _ _ _ S y hy0 hy1 h0 h1 hc W (hr.below h))
  have HT : Hid (totSt S ≤ 4000000) := Lib.hid (by omega)
  have HF := Lib.hid (fun W (h : Below w.heap.size w W) => spec_fault _ _ _ _ _ _ _ S 4 HT.out W (hr.below h))
  have HTF : Hid (totSt { S with fault := 4 } ≤ 4000000) := Lib.hid HT.out
  clear hr hs h0 h1 hc
  go_enter Tryz.func105, Tryz.ntmps105
  go_wp2_with fail
  refine (HPL.out _ B0.out).mono ?_
  rintro e w1 ⟨rfl, hb1⟩
  have sz1 : w.heap.size + 2 ≤ w1.heap.size := by have := hb1.size; rw [HZ0.out] at this; exact this
  have HB1 : Hid (Below w.heap.size w w1) := Lib.hid (B0.out.trans (hb1.mono B0.out.size))
  have KP1 := Lib.hid (KP.out.below hb1 KP.out.lt)
  have KR1 := Lib.hid (KR.out.below hb1 KR.out.lt)
  clear hb1 KP KR B0 HZ0
  obtain ⟨p0, p1, p2, p3, p4, p5, p6, p7, p8, p9⟩ := st_cells KP1.out
  obtain ⟨r0, r1, r2, r3, r4, r5, r6, r7, r8, r9⟩ := st_cells KR1.out
  have lp : w.heap.size < w1.heap.size := KP1.out.lt
  have lr : w.heap.size + 1 < w1.heap.size := KR1.out.lt
  have fp := KP1.out.frozen
  have fr := KR1.out.frozen
  go_wp2_with fail
  refine (HF.out _ HB1.out).mono ?_
  rintro e w2 ⟨v0, v1, v2, v3, v4, v5, v6, rfl, ho, hb2⟩
  have sz2 : w.heap.size + 2 ≤ w2.heap.size := by have := hb2.size; first | omega | (rw [World.size_alloc] at this; omega)
  have HB2 : Hid (Below w.heap.size w w2) := Lib.hid (HB1.out.trans (hb2.mono HB1.out.size))
  have KR2 := Lib.hid ((KR1.out).below hb2 (KR1.out).lt)
  have HO2 := Lib.hid (ho.mono (l2 := w.heap.size + 2) (h2 := w2.heap.size) (by first | omega | (rw [World.size_alloc]; omega)) (Nat.le_refl _))
  obtain ⟨⟨C0, c0, rfl⟩, ⟨C1, c1, rfl⟩, ⟨C2, c2, rfl⟩, ⟨C3, c3, rfl⟩, ⟨C4, c4, rfl⟩, ⟨C5, c5, rfl⟩, ⟨C6, c6, rfl⟩⟩ := ho.form (S := { S with fault := 4 }) HTF.out
  clear ho hb2 p0 p1 p2 p3 p4 p5 p6 p7 p8 p9 r0 r1 r2 r3 r4 r5 r6 r7 r8 r9 lp lr fp fr KP1 KR1 HB1
  obtain ⟨r0, r1, r2, r3, r4, r5, r6, r7, r8, r9⟩ := st_cells KR2.out
  have lr : w.heap.size + 1 < w2.heap.size := KR2.out.lt
  have fr := KR2.out.frozen
  go_wp2_with fail
  have kr := KR2.out
  show bodyPost _ _ _ _ _ (putSt w2 (w.heap.size + 1) (.slice C0 S.data.length c0) (.slice C1 S.ret.length c1) (.int .i32 S.a) (.slice C2 S.mem.length c2) (.slice C3 S.cells.length c3) (.slice C4 S.vars.length c4) (.slice C5 S.out.length c5) (.slice C6 S.inp.length c6) (.int .i64 4) (.int .i64 S.fuel))
  have y1 := putSt_blk kr (.slice C0 S.data.length c0) (.slice C1 S.ret.length c1) (.int .i32 S.a) (.slice C2 S.mem.length c2) (.slice C3 S.cells.length c3) (.slice C4 S.vars.length c4) (.slice C5 S.out.length c5) (.slice C6 S.inp.length c6) (.int .i64 4) (.int .i64 S.fuel)
  have y2 := (HB2.out).grown (putSt_only w2 (w.heap.size + 1) (.slice C0 S.data.length c0) (.slice C1 S.ret.length c1) (.int .i32 S.a) (.slice C2 S.mem.length c2) (.slice C3 S.cells.length c3) (.slice C4 S.vars.length c4) (.slice C5 S.out.length c5) (.slice C6 S.inp.length c6) (.int .i64 4) (.int .i64 S.fuel)) (HB2.out).size (fun k hk => by injection hk with hk; omega)
  have y3 := OwnSt.setSt HO2.out (g := w.heap.size + 1) (.inl (by omega)) (.slice C0 S.data.length c0) (.slice C1 S.ret.length c1) (.int .i32 S.a) (.slice C2 S.mem.length c2) (.slice C3 S.cells.length c3) (.slice C4 S.vars.length c4) (.slice C5 S.out.length c5) (.slice C6 S.inp.length c6) (.int .i64 4) (.int .i64 S.fuel)
  have y4 := putSt_size w2 (w.heap.size + 1) (.slice C0 S.data.length c0) (.slice C1 S.ret.length c1) (.int .i32 S.a) (.slice C2 S.mem.length c2) (.slice C3 S.cells.length c3) (.slice C4 S.vars.length c4) (.slice C5 S.out.length c5) (.slice C6 S.inp.length c6) (.int .i64 4) (.int .i64 S.fuel)
  generalize putSt w2 (w.heap.size + 1) (.slice C0 S.data.length c0) (.slice C1 S.ret.length c1) (.int .i32 S.a) (.slice C2 S.mem.length c2) (.slice C3 S.cells.length c3) (.slice C4 S.vars.length c4) (.slice C5 S.out.length c5) (.slice C6 S.inp.length c6) (.int .i64 4) (.int .i64 S.fuel) = W at y1 y2 y3 y4 ⊢
  obtain ⟨z0, z1, z2, z3, z4, z5, z6, z7, z8, z9⟩ := st_cells y1
  exact bodyPost_ret (v := .agg #[.slice C0 S.data.length c0, .slice C1 S.ret.length c1, .int .i32 S.a, .slice C2 S.mem.length c2, .slice C3 S.cells.length c3, .slice C4 S.vars.length c4, .slice C5 S.out.length c5, .slice C6 S.inp.length c6, .int .i64 4, .int .i64 S.fuel]) (by simp [results, Tryz.results105, z0, z1, z2, z3, z4, z5, z6, z7, z8, z9, go_sem]) rfl (newst_of y3 (by omega) (by first | (rw [y4]; simp; done) | (rw [y4]; simp; omega) | omega) y2)
end Go.Proofs.YtdiaiflleiebfaaGreatDoor

namespace Go.Proofs.YtdiaiflleiebfaaGreatDoor
open Go.RowKit Go

theorem own_prefixG {w : World} {lo sz : Nat} {e : TypeId} {A : Option Addr} {N cap n : Nat} {xs : List Value} (h : w.ownsRow lo e sz (.slice A N cap) N xs) (hn : n ≤ N) : w.ownsRow lo e sz (.slice A n cap) n (xs.take (n * sz)) := by
  have hl := h.1
  have hm := Nat.mul_le_mul_right sz hn
  refine ⟨by rw [List.length_take]; omega, ?_⟩
  rcases h.2 with ⟨e1, h0⟩ | ⟨g, cp, cur, e1, hb, hg, hnc, hm2, hsz, ht⟩
  · injection e1 with e1 e2 e3
    subst e1 e3
    exact .inl ⟨by rw [show n = 0 by omega], by omega⟩
  · injection e1 with e1 e2 e3
    subst e1 e3
    refine .inr ⟨g, cap, cur, rfl, hb, hg, by omega, hm2, hsz, ?_⟩
    rw [← ht, List.take_take]
    congr 1
    omega
theorem slv_take : ∀ (xs : List (Int × Int)) (k : Nat), slv (xs.take k) = (slv xs).take (k * 2)
  | [], k => by simp [slv]
  | a :: r, 0 => by simp [slv]
  | a :: r, k + 1 => by
      rw [show (k + 1) * 2 = k * 2 + 1 + 1 by omega]
      simp only [List.take_succ_cons, slv, slv_take r k]
section
variable {w w' : World} {lo hi : Nat} {d r m c v o i : Value} {S : S8}
/-- A number of Mem is stored. -/
theorem OwnSt.setMem (h : OwnSt w lo hi d r m c v o i S) {q cq n : Nat} (hq : m = .slice (some ⟨q, 0, none⟩) n cq) (j : Nat) (x : Int) : OwnSt (w.setCell ⟨q, j, none⟩ (.int .i32 x)) lo hi d r m c v o i { S with mem := S.mem.set j x } := by
  have hob : m.ownBlock = some q := by rw [hq]; rfl
  have hG : w.grownBy (w.setCell ⟨q, j, none⟩ (.int .i32 x)) (some q) := only_setCell (World.grownBy.refl _ _) (.inl rfl) _
  have K : ∀ {e : TypeId} {size n : Nat} {x : Value} {xs : List Value} {W : World}, w.grownBy W (some q) → w.ownsRow lo e size x n xs → (x.ownBlock = none ∨ x.ownBlock ≠ m.ownBlock) → W.ownsRow lo e size x n xs := fun hg ho hne => ho.kept hg (by rw [← hob]; exact hne)
  refine ⟨h.top, h.dm, h.oi, K hG h.d h.dm, K hG h.r (rows_ne h.r h.m (by decide)), ?_, K hG h.c (rows_ne h.c h.m (by decide)), K hG h.v (rows_ne h.v h.m (by decide)), K hG h.o (rows_ne h.o h.m (by decide)), h.i.kept hG (by rw [← hob]; exact tail_ne h.i h.m (by decide))⟩
  show World.ownsRow _ lo _ 1 m (S.mem.set j x).length ((S.mem.set j x).map iv)
  have hm := h.m
  obtain ⟨M, cm, hM⟩ := own_formG hm
  rw [hq] at hM
  injection hM with e1 e2 e3
  subst e1 e2 e3
  rw [hq] at hm ⊢
  rw [List.length_set, List.map_set]
  exact (World.ownsRow.stored hm j (.int .i32 x)).1
/-- A cell is stored. -/
theorem OwnSt.setCells (h : OwnSt w lo hi d r m c v o i S) {q cq n : Nat} (hq : c = .slice (some ⟨q, 0, none⟩) n cq) (j : Nat) (x : Nat) : OwnSt (w.setCell ⟨q, j, none⟩ (.int .u32 (x : Int))) lo hi d r m c v o i { S with cells := S.cells.set j x } := by
  have hob : c.ownBlock = some q := by rw [hq]; rfl
  have hG : w.grownBy (w.setCell ⟨q, j, none⟩ (.int .u32 (x : Int))) (some q) := only_setCell (World.grownBy.refl _ _) (.inl rfl) _
  have K : ∀ {e : TypeId} {size n : Nat} {x : Value} {xs : List Value} {W : World}, w.grownBy W (some q) → w.ownsRow lo e size x n xs → (x.ownBlock = none ∨ x.ownBlock ≠ c.ownBlock) → W.ownsRow lo e size x n xs := fun hg ho hne => ho.kept hg (by rw [← hob]; exact hne)
  refine ⟨h.top, h.dm, h.oi, K hG h.d (rows_ne h.d h.c (by decide)), K hG h.r (rows_ne h.r h.c (by decide)), K hG h.m (rows_ne h.m h.c (by decide)), ?_, K hG h.v (rows_ne h.v h.c (by decide)), K hG h.o (rows_ne h.o h.c (by decide)), h.i.kept hG (by rw [← hob]; exact tail_ne h.i h.c (by decide))⟩
  show World.ownsRow _ lo _ 1 c (S.cells.set j x).length ((S.cells.set j x).map u32v)
  have hm := h.c
  obtain ⟨M, cm, hM⟩ := own_formG hm
  rw [hq] at hM
  injection hM with e1 e2 e3
  subst e1 e2 e3
  rw [hq] at hm ⊢
  rw [List.length_set, List.map_set]
  exact (World.ownsRow.stored hm j (u32v x)).1
/-- Out is another row. -/
theorem OwnSt.newOut (h : OwnSt w lo hi d r m c v o i S) (hh : hi ≤ w.heap.size) {o' : Value} {l : List Nat} (hd : w'.ownsRow lo 5 1 o' l.length (l.map b8v)) (hg : w.grownBy w' o.ownBlock) (hb : ∀ k, o'.ownBlock = some k → o.ownBlock = some k ∨ w.heap.size ≤ k) : OwnSt w' lo w'.heap.size d r m c v o' i { S with out := l } := by
  have K : ∀ {e : TypeId} {size n : Nat} {x : Value} {xs : List Value}, w.ownsRow lo e size x n xs → (x.ownBlock = none ∨ x.ownBlock ≠ o.ownBlock) → w'.ownsRow lo e size x n xs := fun ho hne => ho.kept hg hne
  have hi2 := h.i.kept hg (apart_sym h.oi)
  refine OwnSt.of7T (S := { S with out := l }) (K h.d (rows_ne h.d h.o (by decide))) (K h.r (rows_ne h.r h.o (by decide))) (K h.m (rows_ne h.m h.o (by decide))) (K h.c (rows_ne h.c h.o (by decide))) (K h.v (rows_ne h.v h.o (by decide))) hd hi2 h.dm ?_
  cases hq : o'.ownBlock with
  | none => exact .inl rfl
  | some k =>
    refine .inr fun e => ?_
    rcases hb k hq with h1 | h1
    · rcases h.oi with h2 | h2
      · rw [h1] at h2; cases h2
      · exact h2 (h1.trans e)
    · have := h.top i (by simp) k e.symm
      omega
/-- Ret is another row. -/
theorem OwnSt.newRet (h : OwnSt w lo hi d r m c v o i S) {r' : Value} {l : List (Int × Int)} (hd : w'.ownsRow lo 69 2 r' l.length (slv l)) (hg : w.grownBy w' r.ownBlock) : OwnSt w' lo w'.heap.size d r' m c v o i { S with ret := l } := by
  have K : ∀ {e : TypeId} {size n : Nat} {x : Value} {xs : List Value}, w.ownsRow lo e size x n xs → (x.ownBlock = none ∨ x.ownBlock ≠ r.ownBlock) → w'.ownsRow lo e size x n xs := fun ho hne => ho.kept hg hne
  exact OwnSt.of7T (S := { S with ret := l }) (K h.d (rows_ne h.d h.r (by decide))) hd (K h.m (rows_ne h.m h.r (by decide))) (K h.c (rows_ne h.c h.r (by decide))) (K h.v (rows_ne h.v h.r (by decide))) (K h.o (rows_ne h.o h.r (by decide))) (h.i.kept hg (tail_ne h.i h.r (by decide))) h.dm h.oi
/-- The top of Ret is left out. -/
theorem OwnSt.popRet {q k rc : Nat} (h : OwnSt w lo hi d (.slice (some ⟨q, 0, none⟩) (k + 1) rc) m c v o i S) (hk : S.ret.length = k + 1) : OwnSt w lo hi d (.slice (some ⟨q, 0, none⟩) k rc) m c v o i { S with ret := S.ret.dropLast } := by
  have h0 := h.r
  rw [hk] at h0
  have hr := own_prefixG h0 (n := k) (by omega)
  have e1 : S.ret.dropLast = S.ret.take k := by rw [List.dropLast_eq_take, hk]; rfl
  have e2 : (S.ret.take k).length = k := by simp; omega
  rw [← slv_take, ← e1] at hr
  refine ⟨?_, h.dm, h.oi, h.d, ?_, h.m, h.c, h.v, h.o, h.i⟩
  · have ht := h.top
    intro x hx kk hkk
    simp only [List.mem_cons, List.not_mem_nil, or_false] at hx
    rcases hx with rfl | rfl | hx
    · exact ht _ (by simp) kk hkk
    · exact ht (.slice (some ⟨q, 0, none⟩) (k + 1) rc) (by simp) kk hkk
    · exact ht x (by rcases hx with rfl | rfl | rfl | rfl | rfl <;> simp) kk hkk
  · show World.ownsRow _ lo _ 2 _ S.ret.dropLast.length _
    rw [e1, e2, ← e1]
    exact hr
/-- The first byte of In is left out. -/
theorem OwnSt.dropInp {k ic b : Nat} {I : Option Addr} {rest : List Nat} (h : OwnSt w lo hi d r m c v o (.slice I (k + 1) ic) S) (hk : S.inp = b :: rest) (hl : rest.length = k) : OwnSt w lo hi d r m c v o (.slice (if ic = 1 then I else I.map (·.add 1)) k (ic - 1)) { S with inp := rest } := by
  have e1 : S.inp.length = k + 1 := by rw [hk, List.length_cons, hl]
  have hr : TailB w lo 5 (.slice (if ic = 1 then I else I.map (·.add 1)) k (ic - 1)) k (rest.map b8v) := by
    have h1 := h.i
    rw [e1, hk] at h1
    exact h1.drop 1 (by omega)
  have hob : ∀ q, (Value.slice (if ic = 1 then I else I.map (·.add 1)) k (ic - 1)).ownBlock = some q → (Value.slice I (k + 1) ic).ownBlock = some q := by
    intro q hq
    have h2 : (Value.slice (if ic = 1 then I else I.map (·.add 1)) k (ic - 1)).ownBlock = (Value.slice I (k + 1) ic).ownBlock := by
      cases I with
      | none => split <;> rfl
      | some a => split <;> simp [Value.ownBlock, addr_addb]
    rw [← h2]; exact hq
  refine ⟨?_, h.dm, ?_, h.d, h.r, h.m, h.c, h.v, h.o, ?_⟩
  · have ht := h.top
    intro x hx kk hkk
    simp only [List.mem_cons, List.not_mem_nil, or_false] at hx
    rcases hx with rfl | rfl | rfl | rfl | rfl | rfl | rfl
    · exact ht _ (by simp) kk hkk
    · exact ht _ (by simp) kk hkk
    · exact ht _ (by simp) kk hkk
    · exact ht _ (by simp) kk hkk
    · exact ht _ (by simp) kk hkk
    · exact ht _ (by simp) kk hkk
    · exact ht (.slice I (k + 1) ic) (by simp) kk (hob kk hkk)
  · rcases h.oi with h1 | h1
    · exact .inl h1
    · cases hq : o.ownBlock with
      | none => exact .inl rfl
      | some q => exact .inr fun e => h1 (by rw [hq]; exact (hob q e.symm).symm)
  · show TailB w lo _ _ rest.length _
    rw [hl]
    exact hr
end
end Go.Proofs.YtdiaiflleiebfaaGreatDoor
