/-
  spec.Do: the words about numbers alone.
-/
import Derived.Test.YtdiaiflleiebfaaGreatDoorDO15
import Derived.Test.YtdiaiflleiebfaaGreatDoorDO16
namespace Go.Proofs.YtdiaiflleiebfaaGreatDoor
open Go.RowKit Go

theorem pure8_len (k : Nat) (x y : Int) : (pure8 k x y).length ≤ 3 := by
  unfold pure8
  split <;> simp
theorem pure8_t0 (k : Nat) (hk : k < 24) (ht : takes8 k = 0) (hp : isPure k = true) (x y x2 y2 : Int) : pure8 k x y = pure8 k x2 y2 := by
  match k, hk, ht, hp with
  | 0, _, h, _ => exact absurd h (by decide)
  | 1, _, h, _ => exact absurd h (by decide)
  | 2, _, h, _ => exact absurd h (by decide)
  | 3, _, h, _ => exact absurd h (by decide)
  | 4, _, h, _ => exact absurd h (by decide)
  | 5, _, h, _ => exact absurd h (by decide)
  | 6, _, h, _ => exact absurd h (by decide)
  | 7, _, h, _ => exact absurd h (by decide)
  | 8, _, h, _ => exact absurd h (by decide)
  | 9, _, h, _ => exact absurd h (by decide)
  | 10, _, h, _ => exact absurd h (by decide)
  | 11, _, h, _ => exact absurd h (by decide)
  | 12, _, h, _ => exact absurd h (by decide)
  | 13, _, h, _ => exact absurd h (by decide)
  | 14, _, h, _ => exact absurd h (by decide)
  | 15, _, _, h => exact absurd h (by decide)
  | 16, _, h, _ => exact absurd h (by decide)
  | 17, _, h, _ => exact absurd h (by decide)
  | 18, _, _, h => exact absurd h (by decide)
  | 19, _, h, _ => exact absurd h (by decide)
  | 20, _, _, h => exact absurd h (by decide)
  | 21, _, _, h => exact absurd h (by decide)
  | 22, _, h, _ => exact absurd h (by decide)
  | 23, _, _, _ => simp only [pure8]
  | k + 24, h, _, _ => omega
theorem pure8_t1 (k : Nat) (hk : k < 24) (ht : takes8 k = 1) (hp : isPure k = true) (x x2 y : Int) : pure8 k x y = pure8 k x2 y := by
  match k, hk, ht, hp with
  | 0, _, _, _ => simp only [pure8]
  | 1, _, _, _ => simp only [pure8]
  | 2, _, h, _ => exact absurd h (by decide)
  | 3, _, h, _ => exact absurd h (by decide)
  | 4, _, h, _ => exact absurd h (by decide)
  | 5, _, h, _ => exact absurd h (by decide)
  | 6, _, _, _ => simp only [pure8]
  | 7, _, h, _ => exact absurd h (by decide)
  | 8, _, h, _ => exact absurd h (by decide)
  | 9, _, h, _ => exact absurd h (by decide)
  | 10, _, _, _ => simp only [pure8]
  | 11, _, _, _ => simp only [pure8]
  | 12, _, h, _ => exact absurd h (by decide)
  | 13, _, _, h => exact absurd h (by decide)
  | 14, _, h, _ => exact absurd h (by decide)
  | 15, _, h, _ => exact absurd h (by decide)
  | 16, _, _, h => exact absurd h (by decide)
  | 17, _, _, h => exact absurd h (by decide)
  | 18, _, h, _ => exact absurd h (by decide)
  | 19, _, _, h => exact absurd h (by decide)
  | 20, _, h, _ => exact absurd h (by decide)
  | 21, _, h, _ => exact absurd h (by decide)
  | 22, _, _, h => exact absurd h (by decide)
  | 23, _, h, _ => exact absurd h (by decide)
  | k + 24, h, _, _ => omega
set_option maxRecDepth 100000 in
set_option maxHeartbeats 3000000 in
theorem sdo_pure0 (d r m c v o i : Value) (S : S8) (k : Nat) (hk : k < 24) (hs : totSt S ≤ 2500000) (w : World) (hr : RdSt w d r m c v o i S) (hok : Ok8 S) (hf : S.fault = 0) (ht : takes8 k = 0) (hle : 0 ≤ S.data.length) (hp : isPure k = true) (_hy0 : -2147483648 ≤ top8 S 0) (_hy1 : top8 S 0 ≤ 2147483647) :
    Calls Tryz.prog 11 #[.agg #[d, r, .int .i32 S.a, m, c, v, o, i, .int .i64 S.fault, .int .i64 S.fuel], .int .i64 (k : Int)] w (NewSt w (fin8 S (put8 S 0 (pure8 k (top8 S 1) (top8 S 0))))) := by
  have hform := hr.form
  obtain ⟨⟨A0, a0, rfl⟩, ⟨A1, a1, rfl⟩, ⟨A2, a2, rfl⟩, ⟨A3, a3, rfl⟩, ⟨A4, a4, rfl⟩, ⟨A5, a5, rfl⟩, ⟨A6, a6, rfl⟩⟩ := hform
  have e1 : (w.alloc (.cells #[.slice A0 S.data.length a0, .slice A1 S.ret.length a1, .int .i32 S.a, .slice A2 S.mem.length a2, .slice A3 S.cells.length a3, .slice A4 S.vars.length a4, .slice A5 S.out.length a5, .slice A6 S.inp.length a6, .int .i64 S.fault, .int .i64 S.fuel] 29)).heap.size = w.heap.size + 1 := by simp
  have KP := Lib.hid (((Blk.new w 29 #[.slice A0 S.data.length a0, .slice A1 S.ret.length a1, .int .i32 S.a, .slice A2 S.mem.length a2, .slice A3 S.cells.length a3, .slice A4 S.vars.length a4, .slice A5 S.out.length a5, .slice A6 S.inp.length a6, .int .i64 S.fault, .int .i64 S.fuel]).alloc (.cells #[.slice none 0 0, .slice none 0 0, .int .i32 0, .slice none 0 0, .slice none 0 0, .slice none 0 0, .slice none 0 0, .slice none 0 0, .int .i64 0, .int .i64 0] 29)))
  have KR : Hid (Blk ((w.alloc (.cells #[.slice A0 S.data.length a0, .slice A1 S.ret.length a1, .int .i32 S.a, .slice A2 S.mem.length a2, .slice A3 S.cells.length a3, .slice A4 S.vars.length a4, .slice A5 S.out.length a5, .slice A6 S.inp.length a6, .int .i64 S.fault, .int .i64 S.fuel] 29)).alloc (.cells #[.slice none 0 0, .slice none 0 0, .int .i32 0, .slice none 0 0, .slice none 0 0, .slice none 0 0, .slice none 0 0, .slice none 0 0, .int .i64 0, .int .i64 0] 29)) (w.heap.size + 1) 29 #[.slice none 0 0, .slice none 0 0, .int .i32 0, .slice none 0 0, .slice none 0 0, .slice none 0 0, .slice none 0 0, .slice none 0 0, .int .i64 0, .int .i64 0]) := Lib.hid (by have := Blk.new (w.alloc (.cells #[.slice A0 S.data.length a0, .slice A1 S.ret.length a1, .int .i32 S.a, .slice A2 S.mem.length a2, .slice A3 S.cells.length a3, .slice A4 S.vars.length a4, .slice A5 S.out.length a5, .slice A6 S.inp.length a6, .int .i64 S.fault, .int .i64 S.fuel] 29)) 29 #[.slice none 0 0, .slice none 0 0, .int .i32 0, .slice none 0 0, .slice none 0 0, .slice none 0 0, .slice none 0 0, .slice none 0 0, .int .i64 0, .int .i64 0]; rw [e1] at this; exact this)
  have B0 : Hid (Below w.heap.size w ((w.alloc (.cells #[.slice A0 S.data.length a0, .slice A1 S.ret.length a1, .int .i32 S.a, .slice A2 S.mem.length a2, .slice A3 S.cells.length a3, .slice A4 S.vars.length a4, .slice A5 S.out.length a5, .slice A6 S.inp.length a6, .int .i64 S.fault, .int .i64 S.fuel] 29)).alloc (.cells #[.slice none 0 0, .slice none 0 0, .int .i32 0, .slice none 0 0, .slice none 0 0, .slice none 0 0, .slice none 0 0, .slice none 0 0, .int .i64 0, .int .i64 0] 29))) := Lib.hid (below_alloc2 w _ _)
  have Z0 : ((w.alloc (.cells #[.slice A0 S.data.length a0, .slice A1 S.ret.length a1, .int .i32 S.a, .slice A2 S.mem.length a2, .slice A3 S.cells.length a3, .slice A4 S.vars.length a4, .slice A5 S.out.length a5, .slice A6 S.inp.length a6, .int .i64 S.fault, .int .i64 S.fuel] 29)).alloc (.cells #[.slice none 0 0, .slice none 0 0, .int .i32 0, .slice none 0 0, .slice none 0 0, .slice none 0 0, .slice none 0 0, .slice none 0 0, .int .i64 0, .int .i64 0] 29)).heap.size = w.heap.size + 2 := by simp
  have HZ0 := Lib.hid Z0
  clear Z0 e1
  have HK := Lib.hid (fun W (h : Below w.heap.size w W) => spec_stok _ _ _ _ _ _ _ S W (hr.below h))
  rw [(ok8_iff S).2 hok] at HK
  have HPN := Lib.hid (fun W => spec_primnameU (k : Int) W)
  have hfb : (S.fault != 0) = false := by simpa using hf
  have hn : primN (k : Int) = primNames.getD k ⟨#[]⟩ := by unfold primN; rw [if_pos (by omega)]; rfl
  rw [hn] at HPN
  obtain ⟨nm, hnm⟩ : ∃ nm, primNames.getD k ⟨#[]⟩ = nm := ⟨_, rfl⟩
  have hne : nm.toList.isEmpty = false := by rw [← hnm]; exact prim_ne k hk
  have HTK := Lib.hid (fun W => spec_takes k hk W)
  rw [hnm] at HPN HTK
  rw [ht] at HTK
  obtain ⟨n, hn2⟩ : ∃ n, S.data.length = n + 0 := ⟨S.data.length - 0, by omega⟩
  have g1 : ¬ (S.data.length : Int) < 0 := by omega
  have g2 : (S.data.length : Int) ≤ 16 := by have := hok.data; omega
  have g3 : (0 : Int) ≤ (n : Int) := by omega
  have hpe : pure8 k (top8 S 1) (top8 S 0) = pure8 k 0 0 := pure8_t0 k hk ht hp _ _ _ _
  rw [hpe]
  have HPU := Lib.hid (fun W => spec_pure_yes k hk hp 0 0 (by decide) (by decide) W)
  rw [hnm] at HPU
  have hdl := hok.data
  have hl3 : (pure8 k 0 0).length ≤ 3 := pure8_len k _ _
  have HPUT := Lib.hid (fun lv W (h : Below w.heap.size w W) (hv : RdI W lv (pure8 k 0 0)) => spec_put _ _ _ _ _ _ _ S 0 lv (pure8 k 0 0) hle hl3 hdl (by omega) W (hr.below h) hv)
  obtain ⟨T, hT⟩ : ∃ T, fin8 S (put8 S 0 (pure8 k 0 0)) = T := ⟨_, rfl⟩
  have HT : Hid (totSt T ≤ 4000000) := Lib.hid (by rw [← hT]; exact put8_tot hs)
  rw [hT] at HPUT ⊢
  unfold PureEnd at HPU
  generalize pure8 k 0 0 = l at HPU HPUT hl3
  clear hr hs hok hf hk hn hnm ht hp hT hpe hdl hl3 hle hn2
  go_enter Tryz.func11, Tryz.ntmps11
  go_wp2_with fail
  refine (HK.out _ B0.out).mono ?_
  rintro e w1 ⟨rfl, hb1⟩
  have sz1 : w.heap.size + 2 ≤ w1.heap.size := by have := hb1.size; rw [HZ0.out] at this; exact this
  have HB1 : Hid (Below w.heap.size w w1) := Lib.hid (B0.out.trans (hb1.mono B0.out.size))
  have KP1 := Lib.hid (KP.out.below hb1 KP.out.lt)
  have KR1 := Lib.hid (KR.out.below hb1 KR.out.lt)
  clear hb1 KP KR B0 HZ0
  obtain ⟨p0, p1, p2, p3, p4, p5, p6, p7, p8, p9⟩ := st_cells KP1.out
  obtain ⟨r0, r1, r2, r3, r4, r5, r6, r7, r8, r9⟩ := st_cells KR1.out
  have lp : w.heap.size < w1.heap.size := KP1.out.lt
  have lr : w.heap.size + 1 < w1.heap.size := KR1.out.lt
  have fp := KP1.out.frozen
  have fr := KR1.out.frozen
  go_wp2_with fail
  refine (HPN.out _).mono ?_
  rintro e w2 ⟨rfl, hb2⟩
  have sz2 : w.heap.size + 2 ≤ w2.heap.size := Nat.le_trans sz1 hb2.size
  have HB2 : Hid (Below w.heap.size w w2) := Lib.hid (HB1.out.trans (hb2.mono HB1.out.size))
  have KP2 := Lib.hid (KP1.out.below hb2 KP1.out.lt)
  have KR2 := Lib.hid (KR1.out.below hb2 KR1.out.lt)
  clear hb2 p0 p1 p2 p3 p4 p5 p6 p7 p8 p9 r0 r1 r2 r3 r4 r5 r6 r7 r8 r9 lp lr fp fr KP1 KR1 HB1
  obtain ⟨p0, p1, p2, p3, p4, p5, p6, p7, p8, p9⟩ := st_cells KP2.out
  obtain ⟨r0, r1, r2, r3, r4, r5, r6, r7, r8, r9⟩ := st_cells KR2.out
  have lp : w.heap.size < w2.heap.size := KP2.out.lt
  have lr : w.heap.size + 1 < w2.heap.size := KR2.out.lt
  have fp := KP2.out.frozen
  have fr := KR2.out.frozen
  go_wp2_with fail
  go_quiet (exact Calls.quiet_of_same ((HTK.out _).mono fun e w' h => ⟨h.1, h.2.symm⟩))
  have hq := below_drewN (Below.refl w2.heap.size w2) nq
  have sz3 : w.heap.size + 2 ≤ (w2.drewN nq).heap.size := Nat.le_trans sz2 hq.size
  have HB3 : Hid (Below w.heap.size w (w2.drewN nq)) := Lib.hid (HB2.out.trans (hq.mono HB2.out.size))
  have KP3 := Lib.hid (KP2.out.below hq KP2.out.lt)
  have KR3 := Lib.hid (KR2.out.below hq KR2.out.lt)
  clear hq p0 p1 p2 p3 p4 p5 p6 p7 p8 p9 r0 r1 r2 r3 r4 r5 r6 r7 r8 r9 lp lr fp fr KP2 KR2 HB2
  generalize w2.drewN nq = w3 at sz3 HB3 KP3 KR3 ⊢
  obtain ⟨p0, p1, p2, p3, p4, p5, p6, p7, p8, p9⟩ := st_cells KP3.out
  obtain ⟨r0, r1, r2, r3, r4, r5, r6, r7, r8, r9⟩ := st_cells KR3.out
  have lp : w.heap.size < w3.heap.size := KP3.out.lt
  have lr : w.heap.size + 1 < w3.heap.size := KR3.out.lt
  have fp := KP3.out.frozen
  have fr := KR3.out.frozen
  go_wp2_with fail
  refine (HPU.out _).mono ?_
  rintro e w4 ⟨lv, rfl, hrd, hb4⟩
  obtain ⟨L, lc, rfl⟩ := hrd.form
  have sz4 : w.heap.size + 2 ≤ w4.heap.size := Nat.le_trans sz3 hb4.size
  have HB4 : Hid (Below w.heap.size w w4) := Lib.hid (HB3.out.trans (hb4.mono HB3.out.size))
  have KP4 := Lib.hid (KP3.out.below hb4 KP3.out.lt)
  have KR4 := Lib.hid (KR3.out.below hb4 KR3.out.lt)
  have HRD := Lib.hid hrd
  clear hb4 hrd p0 p1 p2 p3 p4 p5 p6 p7 p8 p9 r0 r1 r2 r3 r4 r5 r6 r7 r8 r9 lp lr fp fr KP3 KR3 HB3
  obtain ⟨p0, p1, p2, p3, p4, p5, p6, p7, p8, p9⟩ := st_cells KP4.out
  obtain ⟨r0, r1, r2, r3, r4, r5, r6, r7, r8, r9⟩ := st_cells KR4.out
  have lp : w.heap.size < w4.heap.size := KP4.out.lt
  have lr : w.heap.size + 1 < w4.heap.size := KR4.out.lt
  have fp := KP4.out.frozen
  have fr := KR4.out.frozen
  go_wp2_with fail
  refine (HPUT.out _ _ HB4.out HRD.out).mono ?_
  rintro e w5 ⟨v0, v1, v2, v3, v4, v5, v6, rfl, ho, hb5⟩
  have sz5 : w.heap.size + 2 ≤ w5.heap.size := by have := hb5.size; first | omega | (rw [World.size_alloc] at this; omega)
  have HB5 : Hid (Below w.heap.size w w5) := Lib.hid (HB4.out.trans (hb5.mono HB4.out.size))
  have KR5 := Lib.hid ((KR4.out).below hb5 (KR4.out).lt)
  have HO5 := Lib.hid (ho.mono (l2 := w.heap.size + 2) (h2 := w5.heap.size) (by first | omega | (rw [World.size_alloc]; omega)) (Nat.le_refl _))
  obtain ⟨⟨C0, c0, rfl⟩, ⟨C1, c1, rfl⟩, ⟨C2, c2, rfl⟩, ⟨C3, c3, rfl⟩, ⟨C4, c4, rfl⟩, ⟨C5, c5, rfl⟩, ⟨C6, c6, rfl⟩⟩ := ho.form (S := T) HT.out
  clear ho hb5 p0 p1 p2 p3 p4 p5 p6 p7 p8 p9 r0 r1 r2 r3 r4 r5 r6 r7 r8 r9 lp lr fp fr KP4 KR4 HB4
  obtain ⟨r0, r1, r2, r3, r4, r5, r6, r7, r8, r9⟩ := st_cells KR5.out
  have lr : w.heap.size + 1 < w5.heap.size := KR5.out.lt
  have fr := KR5.out.frozen
  go_wp2_with fail
  have kr := KR5.out
  show bodyPost _ _ _ _ _ (putSt w5 (w.heap.size + 1) (.slice C0 T.data.length c0) (.slice C1 T.ret.length c1) (.int .i32 T.a) (.slice C2 T.mem.length c2) (.slice C3 T.cells.length c3) (.slice C4 T.vars.length c4) (.slice C5 T.out.length c5) (.slice C6 T.inp.length c6) (.int .i64 T.fault) (.int .i64 T.fuel))
  have y1 := putSt_blk kr (.slice C0 T.data.length c0) (.slice C1 T.ret.length c1) (.int .i32 T.a) (.slice C2 T.mem.length c2) (.slice C3 T.cells.length c3) (.slice C4 T.vars.length c4) (.slice C5 T.out.length c5) (.slice C6 T.inp.length c6) (.int .i64 T.fault) (.int .i64 T.fuel)
  have y2 := (HB5.out).grown (putSt_only w5 (w.heap.size + 1) (.slice C0 T.data.length c0) (.slice C1 T.ret.length c1) (.int .i32 T.a) (.slice C2 T.mem.length c2) (.slice C3 T.cells.length c3) (.slice C4 T.vars.length c4) (.slice C5 T.out.length c5) (.slice C6 T.inp.length c6) (.int .i64 T.fault) (.int .i64 T.fuel)) (HB5.out).size (fun k hk => by injection hk with hk; omega)
  have y3 := OwnSt.setSt HO5.out (g := w.heap.size + 1) (.inl (by omega)) (.slice C0 T.data.length c0) (.slice C1 T.ret.length c1) (.int .i32 T.a) (.slice C2 T.mem.length c2) (.slice C3 T.cells.length c3) (.slice C4 T.vars.length c4) (.slice C5 T.out.length c5) (.slice C6 T.inp.length c6) (.int .i64 T.fault) (.int .i64 T.fuel)
  have y4 := putSt_size w5 (w.heap.size + 1) (.slice C0 T.data.length c0) (.slice C1 T.ret.length c1) (.int .i32 T.a) (.slice C2 T.mem.length c2) (.slice C3 T.cells.length c3) (.slice C4 T.vars.length c4) (.slice C5 T.out.length c5) (.slice C6 T.inp.length c6) (.int .i64 T.fault) (.int .i64 T.fuel)
  generalize putSt w5 (w.heap.size + 1) (.slice C0 T.data.length c0) (.slice C1 T.ret.length c1) (.int .i32 T.a) (.slice C2 T.mem.length c2) (.slice C3 T.cells.length c3) (.slice C4 T.vars.length c4) (.slice C5 T.out.length c5) (.slice C6 T.inp.length c6) (.int .i64 T.fault) (.int .i64 T.fuel) = W at y1 y2 y3 y4 ⊢
  obtain ⟨z0, z1, z2, z3, z4, z5, z6, z7, z8, z9⟩ := st_cells y1
  exact bodyPost_ret (v := .agg #[.slice C0 T.data.length c0, .slice C1 T.ret.length c1, .int .i32 T.a, .slice C2 T.mem.length c2, .slice C3 T.cells.length c3, .slice C4 T.vars.length c4, .slice C5 T.out.length c5, .slice C6 T.inp.length c6, .int .i64 T.fault, .int .i64 T.fuel]) (by simp [results, Tryz.results11, z0, z1, z2, z3, z4, z5, z6, z7, z8, z9, go_sem]) rfl (newst_of y3 (by omega) (by first | (rw [y4]; simp; done) | (rw [y4]; simp; omega) | omega) y2)
set_option maxRecDepth 100000 in
set_option maxHeartbeats 3000000 in
theorem sdo_pure1 (d r m c v o i : Value) (S : S8) (k : Nat) (hk : k < 24) (hs : totSt S ≤ 2500000) (w : World) (hr : RdSt w d r m c v o i S) (hok : Ok8 S) (hf : S.fault = 0) (ht : takes8 k = 1) (hle : 1 ≤ S.data.length) (hp : isPure k = true) (hy0 : -2147483648 ≤ top8 S 0) (hy1 : top8 S 0 ≤ 2147483647) :
    Calls Tryz.prog 11 #[.agg #[d, r, .int .i32 S.a, m, c, v, o, i, .int .i64 S.fault, .int .i64 S.fuel], .int .i64 (k : Int)] w (NewSt w (fin8 S (put8 S 1 (pure8 k (top8 S 1) (top8 S 0))))) := by
  have hform := hr.form
  obtain ⟨⟨A0, a0, rfl⟩, ⟨A1, a1, rfl⟩, ⟨A2, a2, rfl⟩, ⟨A3, a3, rfl⟩, ⟨A4, a4, rfl⟩, ⟨A5, a5, rfl⟩, ⟨A6, a6, rfl⟩⟩ := hform
  have e1 : (w.alloc (.cells #[.slice A0 S.data.length a0, .slice A1 S.ret.length a1, .int .i32 S.a, .slice A2 S.mem.length a2, .slice A3 S.cells.length a3, .slice A4 S.vars.length a4, .slice A5 S.out.length a5, .slice A6 S.inp.length a6, .int .i64 S.fault, .int .i64 S.fuel] 29)).heap.size = w.heap.size + 1 := by simp
  have KP := Lib.hid (((Blk.new w 29 #[.slice A0 S.data.length a0, .slice A1 S.ret.length a1, .int .i32 S.a, .slice A2 S.mem.length a2, .slice A3 S.cells.length a3, .slice A4 S.vars.length a4, .slice A5 S.out.length a5, .slice A6 S.inp.length a6, .int .i64 S.fault, .int .i64 S.fuel]).alloc (.cells #[.slice none 0 0, .slice none 0 0, .int .i32 0, .slice none 0 0, .slice none 0 0, .slice none 0 0, .slice none 0 0, .slice none 0 0, .int .i64 0, .int .i64 0] 29)))
  have KR : Hid (Blk ((w.alloc (.cells #[.slice A0 S.data.length a0, .slice A1 S.ret.length a1, .int .i32 S.a, .slice A2 S.mem.length a2, .slice A3 S.cells.length a3, .slice A4 S.vars.length a4, .slice A5 S.out.length a5, .slice A6 S.inp.length a6, .int .i64 S.fault, .int .i64 S.fuel] 29)).alloc (.cells #[.slice none 0 0, .slice none 0 0, .int .i32 0, .slice none 0 0, .slice none 0 0, .slice none 0 0, .slice none 0 0, .slice none 0 0, .int .i64 0, .int .i64 0] 29)) (w.heap.size + 1) 29 #[.slice none 0 0, .slice none 0 0, .int .i32 0, .slice none 0 0, .slice none 0 0, .slice none 0 0, .slice none 0 0, .slice none 0 0, .int .i64 0, .int .i64 0]) := Lib.hid (by have := Blk.new (w.alloc (.cells #[.slice A0 S.data.length a0, .slice A1 S.ret.length a1, .int .i32 S.a, .slice A2 S.mem.length a2, .slice A3 S.cells.length a3, .slice A4 S.vars.length a4, .slice A5 S.out.length a5, .slice A6 S.inp.length a6, .int .i64 S.fault, .int .i64 S.fuel] 29)) 29 #[.slice none 0 0, .slice none 0 0, .int .i32 0, .slice none 0 0, .slice none 0 0, .slice none 0 0, .slice none 0 0, .slice none 0 0, .int .i64 0, .int .i64 0]; rw [e1] at this; exact this)
  have B0 : Hid (Below w.heap.size w ((w.alloc (.cells #[.slice A0 S.data.length a0, .slice A1 S.ret.length a1, .int .i32 S.a, .slice A2 S.mem.length a2, .slice A3 S.cells.length a3, .slice A4 S.vars.length a4, .slice A5 S.out.length a5, .slice A6 S.inp.length a6, .int .i64 S.fault, .int .i64 S.fuel] 29)).alloc (.cells #[.slice none 0 0, .slice none 0 0, .int .i32 0, .slice none 0 0, .slice none 0 0, .slice none 0 0, .slice none 0 0, .slice none 0 0, .int .i64 0, .int .i64 0] 29))) := Lib.hid (below_alloc2 w _ _)
  have Z0 : ((w.alloc (.cells #[.slice A0 S.data.length a0, .slice A1 S.ret.length a1, .int .i32 S.a, .slice A2 S.mem.length a2, .slice A3 S.cells.length a3, .slice A4 S.vars.length a4, .slice A5 S.out.length a5, .slice A6 S.inp.length a6, .int .i64 S.fault, .int .i64 S.fuel] 29)).alloc (.cells #[.slice none 0 0, .slice none 0 0, .int .i32 0, .slice none 0 0, .slice none 0 0, .slice none 0 0, .slice none 0 0, .slice none 0 0, .int .i64 0, .int .i64 0] 29)).heap.size = w.heap.size + 2 := by simp
  have HZ0 := Lib.hid Z0
  clear Z0 e1
  have HK := Lib.hid (fun W (h : Below w.heap.size w W) => spec_stok _ _ _ _ _ _ _ S W (hr.below h))
  rw [(ok8_iff S).2 hok] at HK
  have HPN := Lib.hid (fun W => spec_primnameU (k : Int) W)
  have hfb : (S.fault != 0) = false := by simpa using hf
  have hn : primN (k : Int) = primNames.getD k ⟨#[]⟩ := by unfold primN; rw [if_pos (by omega)]; rfl
  rw [hn] at HPN
  obtain ⟨nm, hnm⟩ : ∃ nm, primNames.getD k ⟨#[]⟩ = nm := ⟨_, rfl⟩
  have hne : nm.toList.isEmpty = false := by rw [← hnm]; exact prim_ne k hk
  have HTK := Lib.hid (fun W => spec_takes k hk W)
  rw [hnm] at HPN HTK
  rw [ht] at HTK
  obtain ⟨n, hn2⟩ : ∃ n, S.data.length = n + 1 := ⟨S.data.length - 1, by omega⟩
  obtain ⟨y, hy⟩ : ∃ y, S.data.getD (n) 0 = y := ⟨_, rfl⟩
  have Hy : Hid (∀ W, Below w.heap.size w W → ∃ a, A0 = some a ∧ a.block < W.heap.size ∧ W.cell? (a.add (n)) = some (.int .i32 y)) := Lib.hid (fun W h => by
    obtain ⟨A, cp, e, -, hc⟩ := (hr.below h).d
    injection e with e1 e2 e3
    subst e1
    obtain ⟨a, h1, h2, h3⟩ := hc (n) (by omega)
    refine ⟨a, h1, h2, ?_⟩
    rw [h3, ← hy]
    simp [List.getD, List.getElem?_eq_getElem (show n < S.data.length by omega), iv])
  have etop : top8 S 0 = y := by rw [← hy]; unfold top8; rw [hn2]; congr 1
  have g1 : ¬ (S.data.length : Int) < 1 := by omega
  have g2 : (S.data.length : Int) ≤ 16 := by have := hok.data; omega
  have g3 : (0 : Int) ≤ (n : Int) := by omega
  have g4 : (S.data.length : Int) - 1 = (n : Int) := by omega
  have g5 : (n : Int) < (S.data.length : Int) := by omega
  have g6 : (0 : Int) ≤ (n : Int) := by omega
  have hpe : pure8 k (top8 S 1) (top8 S 0) = pure8 k 0 y := by rw [etop]; exact pure8_t1 k hk ht hp _ _ _
  rw [hpe]
  have HPU := Lib.hid (fun W => spec_pure_yes k hk hp 0 y (by omega) (by omega) W)
  rw [hnm] at HPU
  have hdl := hok.data
  have hl3 : (pure8 k 0 y).length ≤ 3 := pure8_len k _ _
  have HPUT := Lib.hid (fun lv W (h : Below w.heap.size w W) (hv : RdI W lv (pure8 k 0 y)) => spec_put _ _ _ _ _ _ _ S 1 lv (pure8 k 0 y) hle hl3 hdl (by omega) W (hr.below h) hv)
  obtain ⟨T, hT⟩ : ∃ T, fin8 S (put8 S 1 (pure8 k 0 y)) = T := ⟨_, rfl⟩
  have HT : Hid (totSt T ≤ 4000000) := Lib.hid (by rw [← hT]; exact put8_tot hs)
  rw [hT] at HPUT ⊢
  unfold PureEnd at HPU
  generalize pure8 k 0 y = l at HPU HPUT hl3
  clear hr hs hok hf hk hn hnm ht hp hT hpe hdl hl3 hle hy0 hy1 hn2 etop hy
  go_enter Tryz.func11, Tryz.ntmps11
  go_wp2_with fail
  refine (HK.out _ B0.out).mono ?_
  rintro e w1 ⟨rfl, hb1⟩
  have sz1 : w.heap.size + 2 ≤ w1.heap.size := by have := hb1.size; rw [HZ0.out] at this; exact this
  have HB1 : Hid (Below w.heap.size w w1) := Lib.hid (B0.out.trans (hb1.mono B0.out.size))
  have KP1 := Lib.hid (KP.out.below hb1 KP.out.lt)
  have KR1 := Lib.hid (KR.out.below hb1 KR.out.lt)
  clear hb1 KP KR B0 HZ0
  obtain ⟨p0, p1, p2, p3, p4, p5, p6, p7, p8, p9⟩ := st_cells KP1.out
  obtain ⟨r0, r1, r2, r3, r4, r5, r6, r7, r8, r9⟩ := st_cells KR1.out
  have lp : w.heap.size < w1.heap.size := KP1.out.lt
  have lr : w.heap.size + 1 < w1.heap.size := KR1.out.lt
  have fp := KP1.out.frozen
  have fr := KR1.out.frozen
  go_wp2_with fail
  refine (HPN.out _).mono ?_
  rintro e w2 ⟨rfl, hb2⟩
  have sz2 : w.heap.size + 2 ≤ w2.heap.size := Nat.le_trans sz1 hb2.size
  have HB2 : Hid (Below w.heap.size w w2) := Lib.hid (HB1.out.trans (hb2.mono HB1.out.size))
  have KP2 := Lib.hid (KP1.out.below hb2 KP1.out.lt)
  have KR2 := Lib.hid (KR1.out.below hb2 KR1.out.lt)
  clear hb2 p0 p1 p2 p3 p4 p5 p6 p7 p8 p9 r0 r1 r2 r3 r4 r5 r6 r7 r8 r9 lp lr fp fr KP1 KR1 HB1
  obtain ⟨p0, p1, p2, p3, p4, p5, p6, p7, p8, p9⟩ := st_cells KP2.out
  obtain ⟨r0, r1, r2, r3, r4, r5, r6, r7, r8, r9⟩ := st_cells KR2.out
  have lp : w.heap.size < w2.heap.size := KP2.out.lt
  have lr : w.heap.size + 1 < w2.heap.size := KR2.out.lt
  have fp := KP2.out.frozen
  have fr := KR2.out.frozen
  go_wp2_with fail
  go_quiet (exact Calls.quiet_of_same ((HTK.out _).mono fun e w' h => ⟨h.1, h.2.symm⟩))
  have hq := below_drewN (Below.refl w2.heap.size w2) nq
  have sz3 : w.heap.size + 2 ≤ (w2.drewN nq).heap.size := Nat.le_trans sz2 hq.size
  have HB3 : Hid (Below w.heap.size w (w2.drewN nq)) := Lib.hid (HB2.out.trans (hq.mono HB2.out.size))
  have KP3 := Lib.hid (KP2.out.below hq KP2.out.lt)
  have KR3 := Lib.hid (KR2.out.below hq KR2.out.lt)
  clear hq p0 p1 p2 p3 p4 p5 p6 p7 p8 p9 r0 r1 r2 r3 r4 r5 r6 r7 r8 r9 lp lr fp fr KP2 KR2 HB2
  generalize w2.drewN nq = w3 at sz3 HB3 KP3 KR3 ⊢
  obtain ⟨p0, p1, p2, p3, p4, p5, p6, p7, p8, p9⟩ := st_cells KP3.out
  obtain ⟨r0, r1, r2, r3, r4, r5, r6, r7, r8, r9⟩ := st_cells KR3.out
  have lp : w.heap.size < w3.heap.size := KP3.out.lt
  have lr : w.heap.size + 1 < w3.heap.size := KR3.out.lt
  have fp := KP3.out.frozen
  have fr := KR3.out.frozen
  obtain ⟨ad, hA0, lad, cad⟩ := Hy.out w3 HB3.out
  subst hA0
  clear Hy
  go_wp2_with fail
  refine (HPU.out _).mono ?_
  rintro e w4 ⟨lv, rfl, hrd, hb4⟩
  obtain ⟨L, lc, rfl⟩ := hrd.form
  have sz4 : w.heap.size + 2 ≤ w4.heap.size := Nat.le_trans sz3 hb4.size
  have HB4 : Hid (Below w.heap.size w w4) := Lib.hid (HB3.out.trans (hb4.mono HB3.out.size))
  have KP4 := Lib.hid (KP3.out.below hb4 KP3.out.lt)
  have KR4 := Lib.hid (KR3.out.below hb4 KR3.out.lt)
  have HRD := Lib.hid hrd
  clear hb4 hrd p0 p1 p2 p3 p4 p5 p6 p7 p8 p9 r0 r1 r2 r3 r4 r5 r6 r7 r8 r9 lp lr fp fr KP3 KR3 HB3
  obtain ⟨p0, p1, p2, p3, p4, p5, p6, p7, p8, p9⟩ := st_cells KP4.out
  obtain ⟨r0, r1, r2, r3, r4, r5, r6, r7, r8, r9⟩ := st_cells KR4.out
  have lp : w.heap.size < w4.heap.size := KP4.out.lt
  have lr : w.heap.size + 1 < w4.heap.size := KR4.out.lt
  have fp := KP4.out.frozen
  have fr := KR4.out.frozen
  go_wp2_with fail
  refine (HPUT.out _ _ HB4.out HRD.out).mono ?_
  rintro e w5 ⟨v0, v1, v2, v3, v4, v5, v6, rfl, ho, hb5⟩
  have sz5 : w.heap.size + 2 ≤ w5.heap.size := by have := hb5.size; first | omega | (rw [World.size_alloc] at this; omega)
  have HB5 : Hid (Below w.heap.size w w5) := Lib.hid (HB4.out.trans (hb5.mono HB4.out.size))
  have KR5 := Lib.hid ((KR4.out).below hb5 (KR4.out).lt)
  have HO5 := Lib.hid (ho.mono (l2 := w.heap.size + 2) (h2 := w5.heap.size) (by first | omega | (rw [World.size_alloc]; omega)) (Nat.le_refl _))
  obtain ⟨⟨C0, c0, rfl⟩, ⟨C1, c1, rfl⟩, ⟨C2, c2, rfl⟩, ⟨C3, c3, rfl⟩, ⟨C4, c4, rfl⟩, ⟨C5, c5, rfl⟩, ⟨C6, c6, rfl⟩⟩ := ho.form (S := T) HT.out
  clear ho hb5 p0 p1 p2 p3 p4 p5 p6 p7 p8 p9 r0 r1 r2 r3 r4 r5 r6 r7 r8 r9 lp lr fp fr KP4 KR4 HB4
  obtain ⟨r0, r1, r2, r3, r4, r5, r6, r7, r8, r9⟩ := st_cells KR5.out
  have lr : w.heap.size + 1 < w5.heap.size := KR5.out.lt
  have fr := KR5.out.frozen
  go_wp2_with fail
  have kr := KR5.out
  show bodyPost _ _ _ _ _ (putSt w5 (w.heap.size + 1) (.slice C0 T.data.length c0) (.slice C1 T.ret.length c1) (.int .i32 T.a) (.slice C2 T.mem.length c2) (.slice C3 T.cells.length c3) (.slice C4 T.vars.length c4) (.slice C5 T.out.length c5) (.slice C6 T.inp.length c6) (.int .i64 T.fault) (.int .i64 T.fuel))
  have y1 := putSt_blk kr (.slice C0 T.data.length c0) (.slice C1 T.ret.length c1) (.int .i32 T.a) (.slice C2 T.mem.length c2) (.slice C3 T.cells.length c3) (.slice C4 T.vars.length c4) (.slice C5 T.out.length c5) (.slice C6 T.inp.length c6) (.int .i64 T.fault) (.int .i64 T.fuel)
  have y2 := (HB5.out).grown (putSt_only w5 (w.heap.size + 1) (.slice C0 T.data.length c0) (.slice C1 T.ret.length c1) (.int .i32 T.a) (.slice C2 T.mem.length c2) (.slice C3 T.cells.length c3) (.slice C4 T.vars.length c4) (.slice C5 T.out.length c5) (.slice C6 T.inp.length c6) (.int .i64 T.fault) (.int .i64 T.fuel)) (HB5.out).size (fun k hk => by injection hk with hk; omega)
  have y3 := OwnSt.setSt HO5.out (g := w.heap.size + 1) (.inl (by omega)) (.slice C0 T.data.length c0) (.slice C1 T.ret.length c1) (.int .i32 T.a) (.slice C2 T.mem.length c2) (.slice C3 T.cells.length c3) (.slice C4 T.vars.length c4) (.slice C5 T.out.length c5) (.slice C6 T.inp.length c6) (.int .i64 T.fault) (.int .i64 T.fuel)
  have y4 := putSt_size w5 (w.heap.size + 1) (.slice C0 T.data.length c0) (.slice C1 T.ret.length c1) (.int .i32 T.a) (.slice C2 T.mem.length c2) (.slice C3 T.cells.length c3) (.slice C4 T.vars.length c4) (.slice C5 T.out.length c5) (.slice C6 T.inp.length c6) (.int .i64 T.fault) (.int .i64 T.fuel)
  generalize putSt w5 (w.heap.size + 1) (.slice C0 T.data.length c0) (.slice C1 T.ret.length c1) (.int .i32 T.a) (.slice C2 T.mem.length c2) (.slice C3 T.cells.length c3) (.slice C4 T.vars.length c4) (.slice C5 T.out.length c5) (.slice C6 T.inp.length c6) (.int .i64 T.fault) (.int .i64 T.fuel) = W at y1 y2 y3 y4 ⊢
  obtain ⟨z0, z1, z2, z3, z4, z5, z6, z7, z8, z9⟩ := st_cells y1
  exact bodyPost_ret (v := .agg #[.slice C0 T.data.length c0, .slice C1 T.ret.length c1, .int .i32 T.a, .slice C2 T.mem.length c2, .slice C3 T.cells.length c3, .slice C4 T.vars.length c4, .slice C5 T.out.length c5, .slice C6 T.inp.length c6, .int .i64 T.fault, .int .i64 T.fuel]) (by simp [results, Tryz.results11, z0, z1, z2, z3, z4, z5, z6, z7, z8, z9, go_sem]) rfl (newst_of y3 (by omega) (by first | (rw [y4]; simp; done) | (rw [y4]; simp; omega) | omega) y2)
set_option maxRecDepth 100000 in
set_option maxHeartbeats 3000000 in
theorem sdo_pure2 (d r m c v o i : Value) (S : S8) (k : Nat) (hk : k < 24) (hs : totSt S ≤ 2500000) (w : World) (hr : RdSt w d r m c v o i S) (hok : Ok8 S) (hf : S.fault = 0) (ht : takes8 k = 2) (hle : 2 ≤ S.data.length) (hp : isPure k = true) (hy0 : -2147483648 ≤ top8 S 0) (hy1 : top8 S 0 ≤ 2147483647) :
    Calls Tryz.prog 11 #[.agg #[d, r, .int .i32 S.a, m, c, v, o, i, .int .i64 S.fault, .int .i64 S.fuel], .int .i64 (k : Int)] w (NewSt w (fin8 S (put8 S 2 (pure8 k (top8 S 1) (top8 S 0))))) := by
  have hform := hr.form
  obtain ⟨⟨A0, a0, rfl⟩, ⟨A1, a1, rfl⟩, ⟨A2, a2, rfl⟩, ⟨A3, a3, rfl⟩, ⟨A4, a4, rfl⟩, ⟨A5, a5, rfl⟩, ⟨A6, a6, rfl⟩⟩ := hform
  have e1 : (w.alloc (.cells #[.slice A0 S.data.length a0, .slice A1 S.ret.length a1, .int .i32 S.a, .slice A2 S.mem.length a2, .slice A3 S.cells.length a3, .slice A4 S.vars.length a4, .slice A5 S.out.length a5, .slice A6 S.inp.length a6, .int .i64 S.fault, .int .i64 S.fuel] 29)).heap.size = w.heap.size + 1 := by simp
  have KP := Lib.hid (((Blk.new w 29 #[.slice A0 S.data.length a0, .slice A1 S.ret.length a1, .int .i32 S.a, .slice A2 S.mem.length a2, .slice A3 S.cells.length a3, .slice A4 S.vars.length a4, .slice A5 S.out.length a5, .slice A6 S.inp.length a6, .int .i64 S.fault, .int .i64 S.fuel]).alloc (.cells #[.slice none 0 0, .slice none 0 0, .int .i32 0, .slice none 0 0, .slice none 0 0, .slice none 0 0, .slice none 0 0, .slice none 0 0, .int .i64 0, .int .i64 0] 29)))
  have KR : Hid (Blk ((w.alloc (.cells #[.slice A0 S.data.length a0, .slice A1 S.ret.length a1, .int .i32 S.a, .slice A2 S.mem.length a2, .slice A3 S.cells.length a3, .slice A4 S.vars.length a4, .slice A5 S.out.length a5, .slice A6 S.inp.length a6, .int .i64 S.fault, .int .i64 S.fuel] 29)).alloc (.cells #[.slice none 0 0, .slice none 0 0, .int .i32 0, .slice none 0 0, .slice none 0 0, .slice none 0 0, .slice none 0 0, .slice none 0 0, .int .i64 0, .int .i64 0] 29)) (w.heap.size + 1) 29 #[.slice none 0 0, .slice none 0 0, .int .i32 0, .slice none 0 0, .slice none 0 0, .slice none 0 0, .slice none 0 0, .slice none 0 0, .int .i64 0, .int .i64 0]) := Lib.hid (by have := Blk.new (w.alloc (.cells #[.slice A0 S.data.length a0, .slice A1 S.ret.length a1, .int .i32 S.a, .slice A2 S.mem.length a2, .slice A3 S.cells.length a3, .slice A4 S.vars.length a4, .slice A5 S.out.length a5, .slice A6 S.inp.length a6, .int .i64 S.fault, .int .i64 S.fuel] 29)) 29 #[.slice none 0 0, .slice none 0 0, .int .i32 0, .slice none 0 0, .slice none 0 0, .slice none 0 0, .slice none 0 0, .slice none 0 0, .int .i64 0, .int .i64 0]; rw [e1] at this; exact this)
  have B0 : Hid (Below w.heap.size w ((w.alloc (.cells #[.slice A0 S.data.length a0, .slice A1 S.ret.length a1, .int .i32 S.a, .slice A2 S.mem.length a2, .slice A3 S.cells.length a3, .slice A4 S.vars.length a4, .slice A5 S.out.length a5, .slice A6 S.inp.length a6, .int .i64 S.fault, .int .i64 S.fuel] 29)).alloc (.cells #[.slice none 0 0, .slice none 0 0, .int .i32 0, .slice none 0 0, .slice none 0 0, .slice none 0 0, .slice none 0 0, .slice none 0 0, .int .i64 0, .int .i64 0] 29))) := Lib.hid (below_alloc2 w _ _)
  have Z0 : ((w.alloc (.cells #[.slice A0 S.data.length a0, .slice A1 S.ret.length a1, .int .i32 S.a, .slice A2 S.mem.length a2, .slice A3 S.cells.length a3, .slice A4 S.vars.length a4, .slice A5 S.out.length a5, .slice A6 S.inp.length a6, .int .i64 S.fault, .int .i64 S.fuel] 29)).alloc (.cells #[.slice none 0 0, .slice none 0 0, .int .i32 0, .slice none 0 0, .slice none 0 0, .slice none 0 0, .slice none 0 0, .slice none 0 0, .int .i64 0, .int .i64 0] 29)).heap.size = w.heap.size + 2 := by simp
  have HZ0 := Lib.hid Z0
  clear Z0 e1
  have HK := Lib.hid (fun W (h : Below w.heap.size w W) => spec_stok _ _ _ _ _ _ _ S W (hr.below h))
  rw [(ok8_iff S).2 hok] at HK
  have HPN := Lib.hid (fun W => spec_primnameU (k : Int) W)
  have hfb : (S.fault != 0) = false := by simpa using hf
  have hn : primN (k : Int) = primNames.getD k ⟨#[]⟩ := by unfold primN; rw [if_pos (by omega)]; rfl
  rw [hn] at HPN
  obtain ⟨nm, hnm⟩ : ∃ nm, primNames.getD k ⟨#[]⟩ = nm := ⟨_, rfl⟩
  have hne : nm.toList.isEmpty = false := by rw [← hnm]; exact prim_ne k hk
  have HTK := Lib.hid (fun W => spec_takes k hk W)
  rw [hnm] at HPN HTK
  rw [ht] at HTK
  obtain ⟨n, hn2⟩ : ∃ n, S.data.length = n + 2 := ⟨S.data.length - 2, by omega⟩
  obtain ⟨y, hy⟩ : ∃ y, S.data.getD (n + 1) 0 = y := ⟨_, rfl⟩
  have Hy : Hid (∀ W, Below w.heap.size w W → ∃ a, A0 = some a ∧ a.block < W.heap.size ∧ W.cell? (a.add (n + 1)) = some (.int .i32 y)) := Lib.hid (fun W h => by
    obtain ⟨A, cp, e, -, hc⟩ := (hr.below h).d
    injection e with e1 e2 e3
    subst e1
    obtain ⟨a, h1, h2, h3⟩ := hc (n + 1) (by omega)
    refine ⟨a, h1, h2, ?_⟩
    rw [h3, ← hy]
    simp [List.getD, List.getElem?_eq_getElem (show n + 1 < S.data.length by omega), iv])
  obtain ⟨x, hx⟩ : ∃ x, S.data.getD n 0 = x := ⟨_, rfl⟩
  have Hx : Hid (∀ W, Below w.heap.size w W → ∃ a, A0 = some a ∧ a.block < W.heap.size ∧ W.cell? (a.add n) = some (.int .i32 x)) := Lib.hid (fun W h => by
    obtain ⟨A, cp, e, -, hc⟩ := (hr.below h).d
    injection e with e1 e2 e3
    subst e1
    obtain ⟨a, h1, h2, h3⟩ := hc n (by omega)
    refine ⟨a, h1, h2, ?_⟩
    rw [h3, ← hx]
    simp [List.getD, List.getElem?_eq_getElem (show n < S.data.length by omega), iv])
  have etop : top8 S 0 = y := by rw [← hy]; unfold top8; rw [hn2]; congr 1
  have etop2 : top8 S 1 = x := by rw [← hx]; unfold top8; rw [hn2]; congr 1
  have g1 : ¬ (S.data.length : Int) < 2 := by omega
  have g2 : (S.data.length : Int) ≤ 16 := by have := hok.data; omega
  have g3 : (0 : Int) ≤ (n : Int) := by omega
  have g4 : (S.data.length : Int) - 1 = ((n + 1 : Nat) : Int) := by omega
  have g5 : ((n + 1 : Nat) : Int) < (S.data.length : Int) := by omega
  have g6 : (0 : Int) ≤ ((n + 1 : Nat) : Int) := by omega
  have g7 : (S.data.length : Int) - 2 = (n : Int) := by omega
  have g8 : (n : Int) < (S.data.length : Int) := by omega
  have g9 : (0 : Int) ≤ (n : Int) := by omega
  have hpe : pure8 k (top8 S 1) (top8 S 0) = pure8 k x y := by rw [etop, etop2]
  rw [hpe]
  have HPU := Lib.hid (fun W => spec_pure_yes k hk hp x y (by omega) (by omega) W)
  rw [hnm] at HPU
  have hdl := hok.data
  have hl3 : (pure8 k x y).length ≤ 3 := pure8_len k _ _
  have HPUT := Lib.hid (fun lv W (h : Below w.heap.size w W) (hv : RdI W lv (pure8 k x y)) => spec_put _ _ _ _ _ _ _ S 2 lv (pure8 k x y) hle hl3 hdl (by omega) W (hr.below h) hv)
  obtain ⟨T, hT⟩ : ∃ T, fin8 S (put8 S 2 (pure8 k x y)) = T := ⟨_, rfl⟩
  have HT : Hid (totSt T ≤ 4000000) := Lib.hid (by rw [← hT]; exact put8_tot hs)
  rw [hT] at HPUT ⊢
  unfold PureEnd at HPU
  generalize pure8 k x y = l at HPU HPUT hl3
  clear hr hs hok hf hk hn hnm ht hp hT hpe hdl hl3 hle hy0 hy1 hn2 etop hy etop2 hx
  go_enter Tryz.func11, Tryz.ntmps11
  go_wp2_with fail
  refine (HK.out _ B0.out).mono ?_
  rintro e w1 ⟨rfl, hb1⟩
  have sz1 : w.heap.size + 2 ≤ w1.heap.size := by have := hb1.size; rw [HZ0.out] at this; exact this
  have HB1 : Hid (Below w.heap.size w w1) := Lib.hid (B0.out.trans (hb1.mono B0.out.size))
  have KP1 := Lib.hid (KP.out.below hb1 KP.out.lt)
  have KR1 := Lib.hid (KR.out.below hb1 KR.out.lt)
  clear hb1 KP KR B0 HZ0
  obtain ⟨p0, p1, p2, p3, p4, p5, p6, p7, p8, p9⟩ := st_cells KP1.out
  obtain ⟨r0, r1, r2, r3, r4, r5, r6, r7, r8, r9⟩ := st_cells KR1.out
  have lp : w.heap.size < w1.heap.size := KP1.out.lt
  have lr : w.heap.size + 1 < w1.heap.size := KR1.out.lt
  have fp := KP1.out.frozen
  have fr := KR1.out.frozen
  go_wp2_with fail
  refine (HPN.out _).mono ?_
  rintro e w2 ⟨rfl, hb2⟩
  have sz2 : w.heap.size + 2 ≤ w2.heap.size := Nat.le_trans sz1 hb2.size
  have HB2 : Hid (Below w.heap.size w w2) := Lib.hid (HB1.out.trans (hb2.mono HB1.out.size))
  have KP2 := Lib.hid (KP1.out.below hb2 KP1.out.lt)
  have KR2 := Lib.hid (KR1.out.below hb2 KR1.out.lt)
  clear hb2 p0 p1 p2 p3 p4 p5 p6 p7 p8 p9 r0 r1 r2 r3 r4 r5 r6 r7 r8 r9 lp lr fp fr KP1 KR1 HB1
  obtain ⟨p0, p1, p2, p3, p4, p5, p6, p7, p8, p9⟩ := st_cells KP2.out
  obtain ⟨r0, r1, r2, r3, r4, r5, r6, r7, r8, r9⟩ := st_cells KR2.out
  have lp : w.heap.size < w2.heap.size := KP2.out.lt
  have lr : w.heap.size + 1 < w2.heap.size := KR2.out.lt
  have fp := KP2.out.frozen
  have fr := KR2.out.frozen
  go_wp2_with fail
  go_quiet (exact Calls.quiet_of_same ((HTK.out _).mono fun e w' h => ⟨h.1, h.2.symm⟩))
  have hq := below_drewN (Below.refl w2.heap.size w2) nq
  have sz3 : w.heap.size + 2 ≤ (w2.drewN nq).heap.size := Nat.le_trans sz2 hq.size
  have HB3 : Hid (Below w.heap.size w (w2.drewN nq)) := Lib.hid (HB2.out.trans (hq.mono HB2.out.size))
  have KP3 := Lib.hid (KP2.out.below hq KP2.out.lt)
  have KR3 := Lib.hid (KR2.out.below hq KR2.out.lt)
  clear hq p0 p1 p2 p3 p4 p5 p6 p7 p8 p9 r0 r1 r2 r3 r4 r5 r6 r7 r8 r9 lp lr fp fr KP2 KR2 HB2
  generalize w2.drewN nq = w3 at sz3 HB3 KP3 KR3 ⊢
  obtain ⟨p0, p1, p2, p3, p4, p5, p6, p7, p8, p9⟩ := st_cells KP3.out
  obtain ⟨r0, r1, r2, r3, r4, r5, r6, r7, r8, r9⟩ := st_cells KR3.out
  have lp : w.heap.size < w3.heap.size := KP3.out.lt
  have lr : w.heap.size + 1 < w3.heap.size := KR3.out.lt
  have fp := KP3.out.frozen
  have fr := KR3.out.frozen
  obtain ⟨ad, hA0, lad, cad⟩ := Hy.out w3 HB3.out
  subst hA0
  obtain ⟨ad2, hA2, -, cad2⟩ := Hx.out w3 HB3.out
  injection hA2 with hA2
  subst hA2
  unfold Addr.add at cad
  rw [if_neg (by omega)] at cad
  clear Hy Hx
  go_wp2_with fail
  refine (HPU.out _).mono ?_
  rintro e w4 ⟨lv, rfl, hrd, hb4⟩
  obtain ⟨L, lc, rfl⟩ := hrd.form
  have sz4 : w.heap.size + 2 ≤ w4.heap.size := Nat.le_trans sz3 hb4.size
  have HB4 : Hid (Below w.heap.size w w4) := Lib.hid (HB3.out.trans (hb4.mono HB3.out.size))
  have KP4 := Lib.hid (KP3.out.below hb4 KP3.out.lt)
  have KR4 := Lib.hid (KR3.out.below hb4 KR3.out.lt)
  have HRD := Lib.hid hrd
  clear hb4 hrd p0 p1 p2 p3 p4 p5 p6 p7 p8 p9 r0 r1 r2 r3 r4 r5 r6 r7 r8 r9 lp lr fp fr KP3 KR3 HB3
  obtain ⟨p0, p1, p2, p3, p4, p5, p6, p7, p8, p9⟩ := st_cells KP4.out
  obtain ⟨r0, r1, r2, r3, r4, r5, r6, r7, r8, r9⟩ := st_cells KR4.out
  have lp : w.heap.size < w4.heap.size := KP4.out.lt
  have lr : w.heap.size + 1 < w4.heap.size := KR4.out.lt
  have fp := KP4.out.frozen
  have fr := KR4.out.frozen
  go_wp2_with fail
  refine (HPUT.out _ _ HB4.out HRD.out).mono ?_
  rintro e w5 ⟨v0, v1, v2, v3, v4, v5, v6, rfl, ho, hb5⟩
  have sz5 : w.heap.size + 2 ≤ w5.heap.size := by have := hb5.size; first | omega | (rw [World.size_alloc] at this; omega)
  have HB5 : Hid (Below w.heap.size w w5) := Lib.hid (HB4.out.trans (hb5.mono HB4.out.size))
  have KR5 := Lib.hid ((KR4.out).below hb5 (KR4.out).lt)
  have HO5 := Lib.hid (ho.mono (l2 := w.heap.size + 2) (h2 := w5.heap.size) (by first | omega | (rw [World.size_alloc]; omega)) (Nat.le_refl _))
  obtain ⟨⟨C0, c0, rfl⟩, ⟨C1, c1, rfl⟩, ⟨C2, c2, rfl⟩, ⟨C3, c3, rfl⟩, ⟨C4, c4, rfl⟩, ⟨C5, c5, rfl⟩, ⟨C6, c6, rfl⟩⟩ := ho.form (S := T) HT.out
  clear ho hb5 p0 p1 p2 p3 p4 p5 p6 p7 p8 p9 r0 r1 r2 r3 r4 r5 r6 r7 r8 r9 lp lr fp fr KP4 KR4 HB4
  obtain ⟨r0, r1, r2, r3, r4, r5, r6, r7, r8, r9⟩ := st_cells KR5.out
  have lr : w.heap.size + 1 < w5.heap.size := KR5.out.lt
  have fr := KR5.out.frozen
  go_wp2_with fail
  have kr := KR5.out
  show bodyPost _ _ _ _ _ (putSt w5 (w.heap.size + 1) (.slice C0 T.data.length c0) (.slice C1 T.ret.length c1) (.int .i32 T.a) (.slice C2 T.mem.length c2) (.slice C3 T.cells.length c3) (.slice C4 T.vars.length c4) (.slice C5 T.out.length c5) (.slice C6 T.inp.length c6) (.int .i64 T.fault) (.int .i64 T.fuel))
  have y1 := putSt_blk kr (.slice C0 T.data.length c0) (.slice C1 T.ret.length c1) (.int .i32 T.a) (.slice C2 T.mem.length c2) (.slice C3 T.cells.length c3) (.slice C4 T.vars.length c4) (.slice C5 T.out.length c5) (.slice C6 T.inp.length c6) (.int .i64 T.fault) (.int .i64 T.fuel)
  have y2 := (HB5.out).grown (putSt_only w5 (w.heap.size + 1) (.slice C0 T.data.length c0) (.slice C1 T.ret.length c1) (.int .i32 T.a) (.slice C2 T.mem.length c2) (.slice C3 T.cells.length c3) (.slice C4 T.vars.length c4) (.slice C5 T.out.length c5) (.slice C6 T.inp.length c6) (.int .i64 T.fault) (.int .i64 T.fuel)) (HB5.out).size (fun k hk => by injection hk with hk; omega)
  have y3 := OwnSt.setSt HO5.out (g := w.heap.size + 1) (.inl (by omega)) (.slice C0 T.data.length c0) (.slice C1 T.ret.length c1) (.int .i32 T.a) (.slice C2 T.mem.length c2) (.slice C3 T.cells.length c3) (.slice C4 T.vars.length c4) (.slice C5 T.out.length c5) (.slice C6 T.inp.length c6) (.int .i64 T.fault) (.int .i64 T.fuel)
  have y4 := putSt_size w5 (w.heap.size + 1) (.slice C0 T.data.length c0) (.slice C1 T.ret.length c1) (.int .i32 T.a) (.slice C2 T.mem.length c2) (.slice C3 T.cells.length c3) (.slice C4 T.vars.length c4) (.slice C5 T.out.length c5) (.slice C6 T.inp.length c6) (.int .i64 T.fault) (.int .i64 T.fuel)
  generalize putSt w5 (w.heap.size + 1) (.slice C0 T.data.length c0) (.slice C1 T.ret.length c1) (.int .i32 T.a) (.slice C2 T.mem.length c2) (.slice C3 T.cells.length c3) (.slice C4 T.vars.length c4) (.slice C5 T.out.length c5) (.slice C6 T.inp.length c6) (.int .i64 T.fault) (.int .i64 T.fuel) = W at y1 y2 y3 y4 ⊢
  obtain ⟨z0, z1, z2, z3, z4, z5, z6, z7, z8, z9⟩ := st_cells y1
  exact bodyPost_ret (v := .agg #[.slice C0 T.data.length c0, .slice C1 T.ret.length c1, .int .i32 T.a, .slice C2 T.mem.length c2, .slice C3 T.cells.length c3, .slice C4 T.vars.length c4, .slice C5 T.out.length c5, .slice C6 T.inp.length c6, .int .i64 T.fault, .int .i64 T.fuel]) (by simp [results, Tryz.results11, z0, z1, z2, z3, z4, z5, z6, z7, z8, z9, go_sem]) rfl (newst_of y3 (by omega) (by first | (rw [y4]; simp; done) | (rw [y4]; simp; omega) | omega) y2)
end Go.Proofs.YtdiaiflleiebfaaGreatDoor
