/-
  spec.l08Back: pop.
  The document's words, each in one.
-/
import Derived.Test.YtdiaiflleiebfaaGreatDoorDO26
import Derived.Test.YtdiaiflleiebfaaGreatDoorDO19
import Derived.Test.YtdiaiflleiebfaaGreatDoorDO24
import Derived.Test.YtdiaiflleiebfaaGreatDoorDO25
import Derived.Test.YtdiaiflleiebfaaGreatDoorDO27
namespace Go.Proofs.YtdiaiflleiebfaaGreatDoor
open Go.RowKit Go

theorem own_some {w : World} {lo e sz n cap : Nat} {A : Option Addr} {xs : List Value} (h : w.ownsRow lo e sz (.slice A (n + 1) cap) (n + 1) xs) : ∃ q, A = some ⟨q, 0, none⟩ := by
  rcases h.2 with ⟨e1, h0⟩ | ⟨g, cp, cur, e1, -⟩
  · omega
  · injection e1 with e1 e2 e3
    exact ⟨g, e1⟩
theorem own_le {w : World} {lo e sz n cap : Nat} {A : Option Addr} {xs : List Value} (h : w.ownsRow lo e sz (.slice A n cap) n xs) : n ≤ cap := by
  rcases h.2 with ⟨e1, h0⟩ | ⟨g, cp, cur, e1, -, -, h2, -⟩
  · omega
  · injection e1 with e1 e2 e3
    omega
set_option maxRecDepth 100000 in
set_option maxHeartbeats 3000000 in
theorem back_pop (d r m c v o i : Value) (S : S8) (t0 z0 : Int) (h0 : 0 < S.ret.length) (hl0 : S.ret.getLast? = some (t0, z0)) (ht : t0 = 0) (h16 : S.data.length < 16) (hf : S.fault = 0) (hs : totSt S ≤ 2500000) (w : World) (hr : RdSt w d r m c v o i S) (hdl : S.data.length ≤ 16) (hr24 : S.ret.length ≤ 24) :
    Calls Tryz.prog 109 #[.agg #[d, r, .int .i32 S.a, m, c, v, o, i, .int .i64 S.fault, .int .i64 S.fuel], .bool true] w (NewSt w (fin8 S (put8 { S with ret := S.ret.dropLast } 0 [z0]))) := by
  have hform := hr.form
  obtain ⟨⟨A0, a0, rfl⟩, ⟨A1, a1, rfl⟩, ⟨A2, a2, rfl⟩, ⟨A3, a3, rfl⟩, ⟨A4, a4, rfl⟩, ⟨A5, a5, rfl⟩, ⟨A6, a6, rfl⟩⟩ := hform
  have e1 : (w.alloc (.cells #[.slice A0 S.data.length a0, .slice A1 S.ret.length a1, .int .i32 S.a, .slice A2 S.mem.length a2, .slice A3 S.cells.length a3, .slice A4 S.vars.length a4, .slice A5 S.out.length a5, .slice A6 S.inp.length a6, .int .i64 S.fault, .int .i64 S.fuel] 29)).heap.size = w.heap.size + 1 := by simp
  have KP := Lib.hid (((Blk.new w 29 #[.slice A0 S.data.length a0, .slice A1 S.ret.length a1, .int .i32 S.a, .slice A2 S.mem.length a2, .slice A3 S.cells.length a3, .slice A4 S.vars.length a4, .slice A5 S.out.length a5, .slice A6 S.inp.length a6, .int .i64 S.fault, .int .i64 S.fuel]).alloc (.cells #[.slice none 0 0, .slice none 0 0, .int .i32 0, .slice none 0 0, .slice none 0 0, .slice none 0 0, .slice none 0 0, .slice none 0 0, .int .i64 0, .int .i64 0] 29)))
  have KR : Hid (Blk ((w.alloc (.cells #[.slice A0 S.data.length a0, .slice A1 S.ret.length a1, .int .i32 S.a, .slice A2 S.mem.length a2, .slice A3 S.cells.length a3, .slice A4 S.vars.length a4, .slice A5 S.out.length a5, .slice A6 S.inp.length a6, .int .i64 S.fault, .int .i64 S.fuel] 29)).alloc (.cells #[.slice none 0 0, .slice none 0 0, .int .i32 0, .slice none 0 0, .slice none 0 0, .slice none 0 0, .slice none 0 0, .slice none 0 0, .int .i64 0, .int .i64 0] 29)) (w.heap.size + 1) 29 #[.slice none 0 0, .slice none 0 0, .int .i32 0, .slice none 0 0, .slice none 0 0, .slice none 0 0, .slice none 0 0, .slice none 0 0, .int .i64 0, .int .i64 0]) := Lib.hid (by have := Blk.new (w.alloc (.cells #[.slice A0 S.data.length a0, .slice A1 S.ret.length a1, .int .i32 S.a, .slice A2 S.mem.length a2, .slice A3 S.cells.length a3, .slice A4 S.vars.length a4, .slice A5 S.out.length a5, .slice A6 S.inp.length a6, .int .i64 S.fault, .int .i64 S.fuel] 29)) 29 #[.slice none 0 0, .slice none 0 0, .int .i32 0, .slice none 0 0, .slice none 0 0, .slice none 0 0, .slice none 0 0, .slice none 0 0, .int .i64 0, .int .i64 0]; rw [e1] at this; exact this)
  have B0 : Hid (Below w.heap.size w ((w.alloc (.cells #[.slice A0 S.data.length a0, .slice A1 S.ret.length a1, .int .i32 S.a, .slice A2 S.mem.length a2, .slice A3 S.cells.length a3, .slice A4 S.vars.length a4, .slice A5 S.out.length a5, .slice A6 S.inp.length a6, .int .i64 S.fault, .int .i64 S.fuel] 29)).alloc (.cells #[.slice none 0 0, .slice none 0 0, .int .i32 0, .slice none 0 0, .slice none 0 0, .slice none 0 0, .slice none 0 0, .slice none 0 0, .int .i64 0, .int .i64 0] 29))) := Lib.hid (below_alloc2 w _ _)
  have Z0 : ((w.alloc (.cells #[.slice A0 S.data.length a0, .slice A1 S.ret.length a1, .int .i32 S.a, .slice A2 S.mem.length a2, .slice A3 S.cells.length a3, .slice A4 S.vars.length a4, .slice A5 S.out.length a5, .slice A6 S.inp.length a6, .int .i64 S.fault, .int .i64 S.fuel] 29)).alloc (.cells #[.slice none 0 0, .slice none 0 0, .int .i32 0, .slice none 0 0, .slice none 0 0, .slice none 0 0, .slice none 0 0, .slice none 0 0, .int .i64 0, .int .i64 0] 29)).heap.size = w.heap.size + 2 := by simp
  have HZ0 := Lib.hid Z0
  clear Z0 e1
  obtain ⟨k, hk⟩ : ∃ k, S.ret.length = k + 1 := ⟨S.ret.length - 1, by omega⟩
  have hkl : k < S.ret.length := by omega
  have htop : S.ret[k]'hkl = (t0, z0) := by
    rw [List.getLast?_eq_getElem?, hk, Nat.add_sub_cancel, List.getElem?_eq_getElem hkl] at hl0
    exact Option.some.inj hl0
  obtain ⟨ar, hA1, lar, cr0, cr1⟩ := ((hr.below B0.out).r).item hkl
  subst hA1
  rw [htop] at cr0 cr1
  have i0 : ((S.ret.length : Int) == 0) = false := by rw [hk]; simp; omega
  have i1 : (S.ret.length : Int) - 1 = (k : Int) := by omega
  have i2 : (k : Int) < (S.ret.length : Int) := by omega
  have i3 : (0 : Int) ≤ (k : Int) := by omega
  have i4 : (S.ret.length : Int) ≤ 24 := by omega
  have i5 : (1 : Int) ≤ (S.ret.length : Int) := by omega
  subst ht
  have q0 : ((0 : Int) == 2) = false := by decide
  have q1 : ((0 : Int) != 0) = false := by decide
  have hlt : 0 ≤ S.data.length := Nat.zero_le _
  have HPUT := Lib.hid (fun lv W (h : Below w.heap.size w W) (hv : RdI W lv [z0]) => spec_put _ _ _ _ _ _ _ S 0 lv [z0] hlt (by simp) hdl (by omega) W (hr.below h) hv)
  obtain ⟨T, hT0⟩ : ∃ T, ({ S with data := S.data.take (S.data.length - 0) ++ [z0] } : S8) = T := ⟨_, rfl⟩
  have hT : fin8 S (put8 S 0 [z0]) = T := by
    rw [← hT0]
    unfold put8
    rw [if_neg (by simp; omega)]
    rfl
  have HT : Hid (totSt T ≤ 4000000) := Lib.hid (by rw [← hT]; exact put8_tot hs)
  have hres : fin8 S (put8 { S with ret := S.ret.dropLast } 0 [z0]) = { T with ret := T.ret.dropLast } := by
    rw [← hT0]
    unfold put8
    rw [if_neg (by simp; omega)]
    rfl
  have hTr : T.ret.length = k + 1 := by rw [← hT0]; exact hk
  have hTf : T.fault = 0 := by rw [← hT0]; exact hf
  rw [hT] at HPUT
  rw [hres]
  have HTR := Lib.hid hTr
  have HTF := Lib.hid hTf
  have HK24 : Hid (k ≤ 23) := Lib.hid (by omega)
  clear hr hs hk hl0 htop hkl h0 hlt hT hT0 hdl h16 hf hres hTr hTf
  go_enter Tryz.func109, Tryz.ntmps109
  go_upto_region 7 with (fail)
  have kp := KP.out.alloc (.cells #[.int .i64 0, .int .i32 z0] 69)
  have kr := KR.out.alloc (.cells #[.int .i64 0, .int .i32 z0] 69)
  have hb := B0.out.alloc B0.out.size (.cells #[.int .i64 0, .int .i32 z0] 69)
  have ks := Blk.new ((w.alloc (.cells #[.slice A0 S.data.length a0, .slice (some ar) S.ret.length a1, .int .i32 S.a, .slice A2 S.mem.length a2, .slice A3 S.cells.length a3, .slice A4 S.vars.length a4, .slice A5 S.out.length a5, .slice A6 S.inp.length a6, .int .i64 S.fault, .int .i64 S.fuel] 29)).alloc (.cells #[.slice none 0 0, .slice none 0 0, .int .i32 0, .slice none 0 0, .slice none 0 0, .slice none 0 0, .slice none 0 0, .slice none 0 0, .int .i64 0, .int .i64 0] 29)) 69 #[.int .i64 0, .int .i32 z0]
  have hzz : (((w.alloc (.cells #[.slice A0 S.data.length a0, .slice (some ar) S.ret.length a1, .int .i32 S.a, .slice A2 S.mem.length a2, .slice A3 S.cells.length a3, .slice A4 S.vars.length a4, .slice A5 S.out.length a5, .slice A6 S.inp.length a6, .int .i64 S.fault, .int .i64 S.fuel] 29)).alloc (.cells #[.slice none 0 0, .slice none 0 0, .int .i32 0, .slice none 0 0, .slice none 0 0, .slice none 0 0, .slice none 0 0, .slice none 0 0, .int .i64 0, .int .i64 0] 29)).alloc (.cells #[.int .i64 0, .int .i32 z0] 69)).heap.size = w.heap.size + 3 := by rw [World.size_alloc, HZ0.out]
  rw [HZ0.out] at ks
  clear KP KR B0 HZ0
  generalize ((w.alloc (.cells #[.slice A0 S.data.length a0, .slice (some ar) S.ret.length a1, .int .i32 S.a, .slice A2 S.mem.length a2, .slice A3 S.cells.length a3, .slice A4 S.vars.length a4, .slice A5 S.out.length a5, .slice A6 S.inp.length a6, .int .i64 S.fault, .int .i64 S.fuel] 29)).alloc (.cells #[.slice none 0 0, .slice none 0 0, .int .i32 0, .slice none 0 0, .slice none 0 0, .slice none 0 0, .slice none 0 0, .slice none 0 0, .int .i64 0, .int .i64 0] 29)).alloc (.cells #[.int .i64 0, .int .i32 z0] 69) = w1 at kp kr hb ks hzz ⊢
  have sz1 : w.heap.size + 3 ≤ w1.heap.size := by omega
  have c0 : w1.cell? ⟨w.heap.size + 1 + 1, 0, none⟩ = some (.int .i64 0) := ks.cell 0
  have c1 : w1.cell? ⟨w.heap.size + 1 + 1, 1, none⟩ = some (.int .i32 z0) := ks.cell 1
  have lks : w.heap.size + 1 + 1 < w1.heap.size := ks.lt
  have HB1 := Lib.hid hb
  have KP1 := Lib.hid kp
  have KR1 := Lib.hid kr
  clear kp kr hb ks hzz
  obtain ⟨p0, p1, p2, p3, p4, p5, p6, p7, p8, p9⟩ := st_cells KP1.out
  obtain ⟨r0, r1, r2, r3, r4, r5, r6, r7, r8, r9⟩ := st_cells KR1.out
  have lp : w.heap.size < w1.heap.size := KP1.out.lt
  have lr : w.heap.size + 1 < w1.heap.size := KR1.out.lt
  have fp := KP1.out.frozen
  have fr := KR1.out.frozen
  go_wp2_with fail
  refine (HPUT.out _ _ (HB1.out.alloc HB1.out.size _) (rdI_new w1 21 [z0] (by simp))).mono ?_
  rintro e w2 ⟨v0, v1, v2, v3, v4, v5, v6, rfl, ho, hb2⟩
  have sz2 : w.heap.size + 2 ≤ w2.heap.size := by have := hb2.size; first | omega | (rw [World.size_alloc] at this; omega)
  have HB2 : Hid (Below w.heap.size w w2) := Lib.hid ((HB1.out.alloc HB1.out.size (.cells #[.int .i32 z0] 21)).trans (hb2.mono (HB1.out.alloc HB1.out.size (.cells #[.int .i32 z0] 21)).size))
  have KR2 := Lib.hid ((KR1.out.alloc (.cells #[.int .i32 z0] 21)).below hb2 (KR1.out.alloc (.cells #[.int .i32 z0] 21)).lt)
  have HO2 := Lib.hid (ho.mono (l2 := w.heap.size + 2) (h2 := w2.heap.size) (by first | omega | (rw [World.size_alloc]; omega)) (Nat.le_refl _))
  obtain ⟨⟨C0, c0, rfl⟩, ⟨C1, c1, rfl⟩, ⟨C2, c2, rfl⟩, ⟨C3, c3, rfl⟩, ⟨C4, c4, rfl⟩, ⟨C5, c5, rfl⟩, ⟨C6, c6, rfl⟩⟩ := ho.form (S := T) HT.out
  clear ho hb2 p0 p1 p2 p3 p4 p5 p6 p7 p8 p9 r0 r1 r2 r3 r4 r5 r6 r7 r8 r9 lp lr fp fr KP1 KR1 HB1
  obtain ⟨r0, r1, r2, r3, r4, r5, r6, r7, r8, r9⟩ := st_cells KR2.out
  have lr : w.heap.size + 1 < w2.heap.size := KR2.out.lt
  have fr := KR2.out.frozen
  have f2 : (T.fault == 0) = true := by simp [HTF.out]
  have hr2 := HO2.out.r
  rw [HTR.out] at hr2
  obtain ⟨qr, er⟩ := own_some hr2
  subst er
  have hcap : k + 1 ≤ c1 := own_le hr2
  have hk24 := HK24.out
  have hcap2 : k ≤ c1 := by omega
  have hcap3 : (k : Int) ≤ (c1 : Int) := by omega
  have hp0 := HO2.out
  rw [HTR.out] at hp0
  have HP := Lib.hid (hp0.popRet HTR.out)
  clear hr2 hp0 HO2
  go_upto_region 10 with (fail)
  have kr := KR2.out.alloc (.cells #[.slice C0 T.data.length c0, .slice (some ⟨qr, 0, none⟩) k c1, .int .i32 T.a, .slice C2 T.mem.length c2, .slice C3 T.cells.length c3, .slice C4 T.vars.length c4, .slice C5 T.out.length c5, .slice C6 T.inp.length c6, .int .i64 T.fault, .int .i64 T.fuel] 29)
  have ko := Blk.new w2 29 #[.slice C0 T.data.length c0, .slice (some ⟨qr, 0, none⟩) k c1, .int .i32 T.a, .slice C2 T.mem.length c2, .slice C3 T.cells.length c3, .slice C4 T.vars.length c4, .slice C5 T.out.length c5, .slice C6 T.inp.length c6, .int .i64 T.fault, .int .i64 T.fuel]
  have oz := HP.out.alloc (.cells #[.slice C0 T.data.length c0, .slice (some ⟨qr, 0, none⟩) k c1, .int .i32 T.a, .slice C2 T.mem.length c2, .slice C3 T.cells.length c3, .slice C4 T.vars.length c4, .slice C5 T.out.length c5, .slice C6 T.inp.length c6, .int .i64 T.fault, .int .i64 T.fuel] 29)
  have bz := HB2.out.alloc HB2.out.size (.cells #[.slice C0 T.data.length c0, .slice (some ⟨qr, 0, none⟩) k c1, .int .i32 T.a, .slice C2 T.mem.length c2, .slice C3 T.cells.length c3, .slice C4 T.vars.length c4, .slice C5 T.out.length c5, .slice C6 T.inp.length c6, .int .i64 T.fault, .int .i64 T.fuel] 29)
  have hz := bz.size
  have hy : w2.heap.size ≤ (w2.alloc (.cells #[.slice C0 T.data.length c0, .slice (some ⟨qr, 0, none⟩) k c1, .int .i32 T.a, .slice C2 T.mem.length c2, .slice C3 T.cells.length c3, .slice C4 T.vars.length c4, .slice C5 T.out.length c5, .slice C6 T.inp.length c6, .int .i64 T.fault, .int .i64 T.fuel] 29)).heap.size := by first | (simp only [World.size_alloc]; omega) | (simp only [World.size_setCell]; omega) | (simp only [World.size_alloc, World.size_setCell]; omega)
  generalize (w2.alloc (.cells #[.slice C0 T.data.length c0, .slice (some ⟨qr, 0, none⟩) k c1, .int .i32 T.a, .slice C2 T.mem.length c2, .slice C3 T.cells.length c3, .slice C4 T.vars.length c4, .slice C5 T.out.length c5, .slice C6 T.inp.length c6, .int .i64 T.fault, .int .i64 T.fuel] 29)) = wz at kr ko oz bz hz hy ⊢
  obtain ⟨m0, m1, m2, m3, m4, m5, m6, m7, m8, m9⟩ := st_cells ko
  obtain ⟨n0_, n1_, n2_, n3_, n4_, n5_, n6_, n7_, n8_, n9_⟩ := st_cells kr
  have lz1 : w.heap.size + 1 < wz.heap.size := kr.lt
  have lz2 : w2.heap.size < wz.heap.size := ko.lt
  have fz1 := kr.frozen
  have fz2 := ko.frozen
  have KRZ := Lib.hid kr
  have OZ := Lib.hid oz
  have BZ := Lib.hid bz
  clear kr ko oz bz
  go_wp2_with fail
  have kr := KRZ.out
  show bodyPost _ _ _ _ _ (putSt wz (w.heap.size + 1) (.slice C0 T.data.length c0) (.slice (some ⟨qr, 0, none⟩) k c1) (.int .i32 T.a) (.slice C2 T.mem.length c2) (.slice C3 T.cells.length c3) (.slice C4 T.vars.length c4) (.slice C5 T.out.length c5) (.slice C6 T.inp.length c6) (.int .i64 T.fault) (.int .i64 T.fuel))
  have y1 := putSt_blk kr (.slice C0 T.data.length c0) (.slice (some ⟨qr, 0, none⟩) k c1) (.int .i32 T.a) (.slice C2 T.mem.length c2) (.slice C3 T.cells.length c3) (.slice C4 T.vars.length c4) (.slice C5 T.out.length c5) (.slice C6 T.inp.length c6) (.int .i64 T.fault) (.int .i64 T.fuel)
  have y2 := (BZ.out).grown (putSt_only wz (w.heap.size + 1) (.slice C0 T.data.length c0) (.slice (some ⟨qr, 0, none⟩) k c1) (.int .i32 T.a) (.slice C2 T.mem.length c2) (.slice C3 T.cells.length c3) (.slice C4 T.vars.length c4) (.slice C5 T.out.length c5) (.slice C6 T.inp.length c6) (.int .i64 T.fault) (.int .i64 T.fuel)) (BZ.out).size (fun k hk => by injection hk with hk; omega)
  have y3 := OwnSt.setSt OZ.out (g := w.heap.size + 1) (.inl (by omega)) (.slice C0 T.data.length c0) (.slice (some ⟨qr, 0, none⟩) k c1) (.int .i32 T.a) (.slice C2 T.mem.length c2) (.slice C3 T.cells.length c3) (.slice C4 T.vars.length c4) (.slice C5 T.out.length c5) (.slice C6 T.inp.length c6) (.int .i64 T.fault) (.int .i64 T.fuel)
  have y4 := putSt_size wz (w.heap.size + 1) (.slice C0 T.data.length c0) (.slice (some ⟨qr, 0, none⟩) k c1) (.int .i32 T.a) (.slice C2 T.mem.length c2) (.slice C3 T.cells.length c3) (.slice C4 T.vars.length c4) (.slice C5 T.out.length c5) (.slice C6 T.inp.length c6) (.int .i64 T.fault) (.int .i64 T.fuel)
  generalize putSt wz (w.heap.size + 1) (.slice C0 T.data.length c0) (.slice (some ⟨qr, 0, none⟩) k c1) (.int .i32 T.a) (.slice C2 T.mem.length c2) (.slice C3 T.cells.length c3) (.slice C4 T.vars.length c4) (.slice C5 T.out.length c5) (.slice C6 T.inp.length c6) (.int .i64 T.fault) (.int .i64 T.fuel) = W at y1 y2 y3 y4 ⊢
  obtain ⟨z0, z1, z2, z3, z4, z5, z6, z7, z8, z9⟩ := st_cells y1
  exact bodyPost_ret (v := .agg #[.slice C0 T.data.length c0, .slice (some ⟨qr, 0, none⟩) k c1, .int .i32 T.a, .slice C2 T.mem.length c2, .slice C3 T.cells.length c3, .slice C4 T.vars.length c4, .slice C5 T.out.length c5, .slice C6 T.inp.length c6, .int .i64 T.fault, .int .i64 T.fuel]) (by simp [results, Tryz.results109, z0, z1, z2, z3, z4, z5, z6, z7, z8, z9, go_sem]) rfl (newst_of y3 (by omega) (by first | (rw [y4]; simp; done) | (rw [y4]; simp; omega) | omega) y2)
end Go.Proofs.YtdiaiflleiebfaaGreatDoor

namespace Go.Proofs.YtdiaiflleiebfaaGreatDoor
open Go.RowKit Go

theorem fetch_all (d r m c v o i : Value) (S : S8) (x y : Int) (hy0 : -2147483648 ≤ y) (hy1 : y ≤ 2147483647) (hok : Ok8 S) (hs : totSt S ≤ 2500000) (ht1 : 1 ≤ S.data.length) (w : World) (hr : RdSt w d r m c v o i S) :
    Calls Tryz.prog 105 #[.agg #[d, r, .int .i32 S.a, m, c, v, o, i, .int .i64 S.fault, .int .i64 S.fuel], .int .i32 y] w (NewSt w (fin8 S (prim8 13 S x y))) := by
  have hc := hok.cells
  by_cases h0 : 0 ≤ y ∧ y ≤ 31
  · rw [show prim8 13 S x y = put8 S 1 [S.mem.getD y.toNat 0] by unfold prim8; simp only [if_pos h0]]
    have h := fetch_mem d r m c v o i S y.toNat (by omega) hs w hr ht1 hok.data hok.mem
    rw [Int.toNat_of_nonneg h0.1] at h
    exact h
  · by_cases h1 : 1024 ≤ y ∧ y < 1024 + (S.cells.length : Int)
    · rw [show prim8 13 S x y = put8 S 1 [wrap32 (S.cells.getD (y - 1024).toNat 0 : Nat)] by unfold prim8; simp only [if_neg h0, if_pos h1]]
      have h := fetch_cell d r m c v o i S (y - 1024).toNat (by omega) (by omega) hs w hr ht1 hok.data
      rw [Int.toNat_of_nonneg (by omega), show 1024 + (y - 1024) = y by omega] at h
      exact h
    · rw [show prim8 13 S x y = .inl 4 by unfold prim8; simp only [if_neg h0, if_neg h1]]
      exact fetch_none d r m c v o i S y hy0 hy1 h0 h1 (by omega) hs w hr
theorem store_all (d r m c v o i : Value) (S : S8) (x y : Int) (hy0 : -2147483648 ≤ y) (hy1 : y ≤ 2147483647) (hok : Ok8 S) (hs : totSt S ≤ 2500000) (ht2 : 2 ≤ S.data.length) (w : World) (hr : RdSt w d r m c v o i S) :
    Calls Tryz.prog 106 #[.agg #[d, r, .int .i32 S.a, m, c, v, o, i, .int .i64 S.fault, .int .i64 S.fuel], .int .i32 x, .int .i32 y] w (NewSt w (fin8 S (prim8 14 S x y))) := by
  have hc := hok.cells
  by_cases h0 : 0 ≤ y ∧ y ≤ 31
  · rw [show prim8 14 S x y = .inr { drop8 S 2 with mem := S.mem.set y.toNat x } by unfold prim8; simp only [if_pos h0]]
    have h := store_mem_s d r m c v o i S x y.toNat (by omega) hs w hr ht2 hok.data hok.mem
    rw [Int.toNat_of_nonneg h0.1] at h
    exact h
  · by_cases h1 : y - 1024 ∈ S.vars
    · rw [show prim8 14 S x y = .inr { drop8 S 2 with cells := S.cells.set (y - 1024).toNat (x % 4294967296).toNat } by unfold prim8; simp only [if_neg h0, if_pos h1]]
      have hp := of_decide_eq_true hok.places
      obtain ⟨q, hq, e⟩ := List.getElem_of_mem h1
      have h2 := (hp q hq).1
      rw [e] at h2
      have h := store_var_s d r m c v o i S x (y - 1024).toNat (by omega) (by omega) hs w hr ht2 hok.data hok.vars (by rw [Int.toNat_of_nonneg h2.1]; exact h1)
      rw [Int.toNat_of_nonneg h2.1, show 1024 + (y - 1024) = y by omega] at h
      exact h
    · rw [show prim8 14 S x y = .inl 4 by unfold prim8; simp only [if_neg h0, if_neg h1]]
      by_cases h2 : 1024 ≤ y ∧ y < 1024 + (S.cells.length : Int)
      · have h := store_novar_s d r m c v o i S x (y - 1024).toNat (by omega) (by omega) hs w hr ht2 hok.data hok.vars (by rw [Int.toNat_of_nonneg (by omega)]; exact h1)
        rw [Int.toNat_of_nonneg (by omega), show 1024 + (y - 1024) = y by omega] at h
        exact h
      · exact store_none_s d r m c v o i S x y hy0 hy1 h0 h2 (by omega) hok.vars hs w hr ht2 hok.data
theorem divide_all (d r m c v o i : Value) (S : S8) (x y : Int) (hy0 : -2147483648 ≤ y) (hy1 : y ≤ 2147483647) (hok : Ok8 S) (hs : totSt S ≤ 2500000) (ht2 : 2 ≤ S.data.length) (hx0 : -2147483648 ≤ x) (hx1 : x ≤ 2147483647) (w : World) (hr : RdSt w d r m c v o i S) :
    Calls Tryz.prog 104 #[.agg #[d, r, .int .i32 S.a, m, c, v, o, i, .int .i64 S.fault, .int .i64 S.fuel], .int .i32 x, .int .i32 y] w (NewSt w (fin8 S (prim8 12 S x y))) := by
  by_cases h0 : y = 0
  · rw [show prim8 12 S x y = .inl 5 by unfold prim8; simp only [if_pos h0]]
    subst h0
    exact divide_zero d r m c v o i S x hs w hr
  · rw [show prim8 12 S x y = put8 S 2 [x.tmod y, wrap32 (x.tdiv y)] by unfold prim8; simp only [if_neg h0]]
    exact divide_num d r m c v o i S x y (by omega) (by omega) hy0 hy1 h0 hs w hr ht2 hok.data
theorem back_i_all (d r m c v o i : Value) (S : S8) (x y : Int) (hok : Ok8 S) (hs : totSt S ≤ 2500000) (w : World) (hr : RdSt w d r m c v o i S) :
    Calls Tryz.prog 109 #[.agg #[d, r, .int .i32 S.a, m, c, v, o, i, .int .i64 S.fault, .int .i64 S.fuel], .bool false] w (NewSt w (fin8 S (prim8 21 S x y))) := by
  cases hl : S.ret.getLast? with
  | none =>
    rw [show prim8 21 S x y = .inl 3 by unfold prim8; simp only [hl]]
    exact back_none d r m c v o i S false (by rw [List.getLast?_eq_none_iff.1 hl]; rfl) hs w hr
  | some tz =>
    obtain ⟨t0, z0⟩ := tz
    have hne : S.ret ≠ [] := by intro h; rw [h] at hl; cases hl
    have h0 : 0 < S.ret.length := List.length_pos_iff.2 hne
    by_cases h2 : t0 = 2
    · rw [show prim8 21 S x y = .inl 11 by unfold prim8; simp only [hl, if_pos h2]]
      exact back_mix2 d r m c v o i S t0 z0 h0 hl false h2 hs w hr hok.ret
    · rw [show prim8 21 S x y = put8 S 0 [z0] by unfold prim8; simp only [hl, if_neg h2]]
      exact back_i d r m c v o i S t0 z0 h0 hl h2 hs w hr hok.data hok.ret
theorem back_pop_all (d r m c v o i : Value) (S : S8) (x y : Int) (hok : Ok8 S) (hs : totSt S ≤ 2500000) (hf : S.fault = 0) (w : World) (hr : RdSt w d r m c v o i S) :
    Calls Tryz.prog 109 #[.agg #[d, r, .int .i32 S.a, m, c, v, o, i, .int .i64 S.fault, .int .i64 S.fuel], .bool true] w (NewSt w (fin8 S (prim8 20 S x y))) := by
  cases hl : S.ret.getLast? with
  | none =>
    rw [show prim8 20 S x y = .inl 3 by unfold prim8; simp only [hl]]
    exact back_none d r m c v o i S true (by rw [List.getLast?_eq_none_iff.1 hl]; rfl) hs w hr
  | some tz =>
    obtain ⟨t0, z0⟩ := tz
    have hne : S.ret ≠ [] := by intro h; rw [h] at hl; cases hl
    have h0 : 0 < S.ret.length := List.length_pos_iff.2 hne
    by_cases h2 : t0 = 0
    · rw [show prim8 20 S x y = put8 { S with ret := S.ret.dropLast } 0 [z0] by unfold prim8; simp only [hl, if_pos h2]]
      have hd := hok.data
      by_cases h16 : S.data.length < 16
      · exact back_pop d r m c v o i S t0 z0 h0 hl h2 h16 hf hs w hr hok.data hok.ret
      · rw [show fin8 S (put8 { S with ret := S.ret.dropLast } 0 [z0]) = { S with fault := 2 } by unfold put8; rw [if_pos (by simp; omega)]; rfl]
        exact back_pop_full d r m c v o i S t0 z0 h0 hl h2 (by omega) hs w hr hok.data hok.ret
    · rw [show prim8 20 S x y = .inl 11 by unfold prim8; simp only [hl, if_neg h2]]
      by_cases h3 : t0 = 2
      · exact back_mix2 d r m c v o i S t0 z0 h0 hl true h3 hs w hr hok.ret
      · exact back_mixd d r m c v o i S t0 z0 h0 hl h3 h2 hs w hr hok.ret
theorem spec_say (d r m c v o i : Value) (S : S8) (lv : Value) (l : List Nat) (hl : l.length ≤ 40) (hok : Ok8 S) (hs : totSt S ≤ 2500000) (ht1 : 1 ≤ S.data.length) (w : World) (hr : RdSt w d r m c v o i S) (hv : RdM w lv l) :
    Calls Tryz.prog 107 #[.agg #[d, r, .int .i32 S.a, m, c, v, o, i, .int .i64 S.fault, .int .i64 S.fuel], lv] w (NewSt w (fin8 S (say8 S l))) := by
  have ho := hok.out
  by_cases h : 400 < S.out.length + l.length
  · rw [show say8 S l = .inl 13 by unfold say8; rw [if_pos h]]
    exact say_no d r m c v o i S lv l hl h ho hs w hr hv
  · rw [show say8 S l = .inr { drop8 S 1 with out := S.out ++ l } by unfold say8; rw [if_neg h]]
    exact say_yes d r m c v o i S lv l hl (by omega) hs w hr hv ht1 hok.data
end Go.Proofs.YtdiaiflleiebfaaGreatDoor
