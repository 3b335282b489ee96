/-
  impl.Do: a built-in word.
-/
import Derived.Test.YtdiaiflleiebfaaGreatDoorDO39
import Derived.Test.YtdiaiflleiebfaaGreatDoorDO40
import Derived.Test.YtdiaiflleiebfaaGreatDoorDO41
namespace Go.Proofs.YtdiaiflleiebfaaGreatDoor
open Go.RowKit Go

set_option maxRecDepth 100000 in
set_option maxHeartbeats 3000000 in
theorem ido_no (d r m c v o i : Value) (S : S8) (k : Int) (_hs : totSt S ≤ 2500000) (w : World) (hr : RdSt w d r m c v o i S) (hk : ok8 S = false) :
    Calls Tryz.prog 10 #[.agg #[d, r, .int .i32 S.a, m, c, v, o, i, .int .i64 S.fault, .int .i64 S.fuel], .int .i64 k] w (NewSt w (zero8)) := by
  have hform := hr.form
  obtain ⟨⟨A0, a0, rfl⟩, ⟨A1, a1, rfl⟩, ⟨A2, a2, rfl⟩, ⟨A3, a3, rfl⟩, ⟨A4, a4, rfl⟩, ⟨A5, a5, rfl⟩, ⟨A6, a6, rfl⟩⟩ := hform
  have e1 : (w.alloc (.cells #[.slice A0 S.data.length a0, .slice A1 S.ret.length a1, .int .i32 S.a, .slice A2 S.mem.length a2, .slice A3 S.cells.length a3, .slice A4 S.vars.length a4, .slice A5 S.out.length a5, .slice A6 S.inp.length a6, .int .i64 S.fault, .int .i64 S.fuel] 29)).heap.size = w.heap.size + 1 := by simp
  have KP := Lib.hid (((Blk.new w 29 #[.slice A0 S.data.length a0, .slice A1 S.ret.length a1, .int .i32 S.a, .slice A2 S.mem.length a2, .slice A3 S.cells.length a3, .slice A4 S.vars.length a4, .slice A5 S.out.length a5, .slice A6 S.inp.length a6, .int .i64 S.fault, .int .i64 S.fuel]).alloc (.cells #[.slice none 0 0, .slice none 0 0, .int .i32 0, .slice none 0 0, .slice none 0 0, .slice none 0 0, .slice none 0 0, .slice none 0 0, .int .i64 0, .int .i64 0] 29)))
  have KR : Hid (Blk ((w.alloc (.cells #[.slice A0 S.data.length a0, .slice A1 S.ret.length a1, .int .i32 S.a, .slice A2 S.mem.length a2, .slice A3 S.cells.length a3, .slice A4 S.vars.length a4, .slice A5 S.out.length a5, .slice A6 S.inp.length a6, .int .i64 S.fault, .int .i64 S.fuel] 29)).alloc (.cells #[.slice none 0 0, .slice none 0 0, .int .i32 0, .slice none 0 0, .slice none 0 0, .slice none 0 0, .slice none 0 0, .slice none 0 0, .int .i64 0, .int .i64 0] 29)) (w.heap.size + 1) 29 #[.slice none 0 0, .slice none 0 0, .int .i32 0, .slice none 0 0, .slice none 0 0, .slice none 0 0, .slice none 0 0, .slice none 0 0, .int .i64 0, .int .i64 0]) := Lib.hid (by have := Blk.new (w.alloc (.cells #[.slice A0 S.data.length a0, .slice A1 S.ret.length a1, .int .i32 S.a, .slice A2 S.mem.length a2, .slice A3 S.cells.length a3, .slice A4 S.vars.length a4, .slice A5 S.out.length a5, .slice A6 S.inp.length a6, .int .i64 S.fault, .int .i64 S.fuel] 29)) 29 #[.slice none 0 0, .slice none 0 0, .int .i32 0, .slice none 0 0, .slice none 0 0, .slice none 0 0, .slice none 0 0, .slice none 0 0, .int .i64 0, .int .i64 0]; rw [e1] at this; exact this)
  have B0 : Hid (Below w.heap.size w ((w.alloc (.cells #[.slice A0 S.data.length a0, .slice A1 S.ret.length a1, .int .i32 S.a, .slice A2 S.mem.length a2, .slice A3 S.cells.length a3, .slice A4 S.vars.length a4, .slice A5 S.out.length a5, .slice A6 S.inp.length a6, .int .i64 S.fault, .int .i64 S.fuel] 29)).alloc (.cells #[.slice none 0 0, .slice none 0 0, .int .i32 0, .slice none 0 0, .slice none 0 0, .slice none 0 0, .slice none 0 0, .slice none 0 0, .int .i64 0, .int .i64 0] 29))) := Lib.hid (below_alloc2 w _ _)
  have Z0 : ((w.alloc (.cells #[.slice A0 S.data.length a0, .slice A1 S.ret.length a1, .int .i32 S.a, .slice A2 S.mem.length a2, .slice A3 S.cells.length a3, .slice A4 S.vars.length a4, .slice A5 S.out.length a5, .slice A6 S.inp.length a6, .int .i64 S.fault, .int .i64 S.fuel] 29)).alloc (.cells #[.slice none 0 0, .slice none 0 0, .int .i32 0, .slice none 0 0, .slice none 0 0, .slice none 0 0, .slice none 0 0, .slice none 0 0, .int .i64 0, .int .i64 0] 29)).heap.size = w.heap.size + 2 := by simp
  have HZ0 := Lib.hid Z0
  clear Z0 e1
  have HK := Lib.hid (fun W (h : Below w.heap.size w W) => impl_stok _ _ _ _ _ _ _ S W (hr.below h))
  rw [hk] at HK
  clear hr hk _hs
  go_enter Tryz.func10, Tryz.ntmps10
  go_wp2_with fail
  refine (HK.out _ B0.out).mono ?_
  rintro e w1 ⟨rfl, hb1⟩
  have sz1 : w.heap.size + 2 ≤ w1.heap.size := by have := hb1.size; rw [HZ0.out] at this; exact this
  have HB1 : Hid (Below w.heap.size w w1) := Lib.hid (B0.out.trans (hb1.mono B0.out.size))
  have KP1 := Lib.hid (KP.out.below hb1 KP.out.lt)
  have KR1 := Lib.hid (KR.out.below hb1 KR.out.lt)
  obtain ⟨p0, p1, p2, p3, p4, p5, p6, p7, p8, p9⟩ := st_cells KP1.out
  obtain ⟨r0, r1, r2, r3, r4, r5, r6, r7, r8, r9⟩ := st_cells KR1.out
  have lp : w.heap.size < w1.heap.size := KP1.out.lt
  have lr : w.heap.size + 1 < w1.heap.size := KR1.out.lt
  have fp := KP1.out.frozen
  have fr := KR1.out.frozen
  clear hb1 KP KR B0 HZ0 HK
  go_wp2_with fail
  have kr := KR1.out
  show bodyPost _ _ _ _ _ (putSt w1 (w.heap.size + 1) (.slice none 0 0) (.slice none 0 0) (.int .i32 0) (.slice none 0 0) (.slice none 0 0) (.slice none 0 0) (.slice none 0 0) (.slice none 0 0) (.int .i64 0) (.int .i64 0))
  have y1 := putSt_blk kr (.slice none 0 0) (.slice none 0 0) (.int .i32 0) (.slice none 0 0) (.slice none 0 0) (.slice none 0 0) (.slice none 0 0) (.slice none 0 0) (.int .i64 0) (.int .i64 0)
  have y2 := HB1.out.grown (putSt_only w1 (w.heap.size + 1) (.slice none 0 0) (.slice none 0 0) (.int .i32 0) (.slice none 0 0) (.slice none 0 0) (.slice none 0 0) (.slice none 0 0) (.slice none 0 0) (.int .i64 0) (.int .i64 0)) HB1.out.size (fun k hk => by injection hk with hk; omega)
  generalize putSt w1 (w.heap.size + 1) (.slice none 0 0) (.slice none 0 0) (.int .i32 0) (.slice none 0 0) (.slice none 0 0) (.slice none 0 0) (.slice none 0 0) (.slice none 0 0) (.int .i64 0) (.int .i64 0) = W at y1 y2 ⊢
  obtain ⟨z0, z1, z2, z3, z4, z5, z6, z7, z8, z9⟩ := st_cells y1
  exact bodyPost_ret (v := .agg #[.slice none 0 0, .slice none 0 0, .int .i32 0, .slice none 0 0, .slice none 0 0, .slice none 0 0, .slice none 0 0, .slice none 0 0, .int .i64 0, .int .i64 0]) (by simp [results, Tryz.results10, z0, z1, z2, z3, z4, z5, z6, z7, z8, z9, go_sem]) rfl (newst_zero y2)
set_option maxRecDepth 100000 in
set_option maxHeartbeats 3000000 in
theorem ido_yes (d r m c v o i : Value) (S : S8) (k : Int) (hs : totSt S ≤ 2500000) (w : World) (hr : RdSt w d r m c v o i S) (hk : ok8 S = true) (hrg : Rng8 S) (hp : Lib.TabIs Tryz.prog w "internal/strconv.uint64pow10" .u64 Lib.pow10Tab) :
    Calls Tryz.prog 10 #[.agg #[d, r, .int .i32 S.a, m, c, v, o, i, .int .i64 S.fault, .int .i64 S.fuel], .int .i64 k] w (NewSt w (if S.fault = 0 then fin8 S (word8 S k) else S)) := by
  have hform := hr.form
  obtain ⟨⟨A0, a0, rfl⟩, ⟨A1, a1, rfl⟩, ⟨A2, a2, rfl⟩, ⟨A3, a3, rfl⟩, ⟨A4, a4, rfl⟩, ⟨A5, a5, rfl⟩, ⟨A6, a6, rfl⟩⟩ := hform
  have e1 : (w.alloc (.cells #[.slice A0 S.data.length a0, .slice A1 S.ret.length a1, .int .i32 S.a, .slice A2 S.mem.length a2, .slice A3 S.cells.length a3, .slice A4 S.vars.length a4, .slice A5 S.out.length a5, .slice A6 S.inp.length a6, .int .i64 S.fault, .int .i64 S.fuel] 29)).heap.size = w.heap.size + 1 := by simp
  have KP := Lib.hid (((Blk.new w 29 #[.slice A0 S.data.length a0, .slice A1 S.ret.length a1, .int .i32 S.a, .slice A2 S.mem.length a2, .slice A3 S.cells.length a3, .slice A4 S.vars.length a4, .slice A5 S.out.length a5, .slice A6 S.inp.length a6, .int .i64 S.fault, .int .i64 S.fuel]).alloc (.cells #[.slice none 0 0, .slice none 0 0, .int .i32 0, .slice none 0 0, .slice none 0 0, .slice none 0 0, .slice none 0 0, .slice none 0 0, .int .i64 0, .int .i64 0] 29)))
  have KR : Hid (Blk ((w.alloc (.cells #[.slice A0 S.data.length a0, .slice A1 S.ret.length a1, .int .i32 S.a, .slice A2 S.mem.length a2, .slice A3 S.cells.length a3, .slice A4 S.vars.length a4, .slice A5 S.out.length a5, .slice A6 S.inp.length a6, .int .i64 S.fault, .int .i64 S.fuel] 29)).alloc (.cells #[.slice none 0 0, .slice none 0 0, .int .i32 0, .slice none 0 0, .slice none 0 0, .slice none 0 0, .slice none 0 0, .slice none 0 0, .int .i64 0, .int .i64 0] 29)) (w.heap.size + 1) 29 #[.slice none 0 0, .slice none 0 0, .int .i32 0, .slice none 0 0, .slice none 0 0, .slice none 0 0, .slice none 0 0, .slice none 0 0, .int .i64 0, .int .i64 0]) := Lib.hid (by have := Blk.new (w.alloc (.cells #[.slice A0 S.data.length a0, .slice A1 S.ret.length a1, .int .i32 S.a, .slice A2 S.mem.length a2, .slice A3 S.cells.length a3, .slice A4 S.vars.length a4, .slice A5 S.out.length a5, .slice A6 S.inp.length a6, .int .i64 S.fault, .int .i64 S.fuel] 29)) 29 #[.slice none 0 0, .slice none 0 0, .int .i32 0, .slice none 0 0, .slice none 0 0, .slice none 0 0, .slice none 0 0, .slice none 0 0, .int .i64 0, .int .i64 0]; rw [e1] at this; exact this)
  have B0 : Hid (Below w.heap.size w ((w.alloc (.cells #[.slice A0 S.data.length a0, .slice A1 S.ret.length a1, .int .i32 S.a, .slice A2 S.mem.length a2, .slice A3 S.cells.length a3, .slice A4 S.vars.length a4, .slice A5 S.out.length a5, .slice A6 S.inp.length a6, .int .i64 S.fault, .int .i64 S.fuel] 29)).alloc (.cells #[.slice none 0 0, .slice none 0 0, .int .i32 0, .slice none 0 0, .slice none 0 0, .slice none 0 0, .slice none 0 0, .slice none 0 0, .int .i64 0, .int .i64 0] 29))) := Lib.hid (below_alloc2 w _ _)
  have Z0 : ((w.alloc (.cells #[.slice A0 S.data.length a0, .slice A1 S.ret.length a1, .int .i32 S.a, .slice A2 S.mem.length a2, .slice A3 S.cells.length a3, .slice A4 S.vars.length a4, .slice A5 S.out.length a5, .slice A6 S.inp.length a6, .int .i64 S.fault, .int .i64 S.fuel] 29)).alloc (.cells #[.slice none 0 0, .slice none 0 0, .int .i32 0, .slice none 0 0, .slice none 0 0, .slice none 0 0, .slice none 0 0, .slice none 0 0, .int .i64 0, .int .i64 0] 29)).heap.size = w.heap.size + 2 := by simp
  have HZ0 := Lib.hid Z0
  clear Z0 e1
  have HK := Lib.hid (fun W (h : Below w.heap.size w W) => impl_stok _ _ _ _ _ _ _ S W (hr.below h))
  rw [hk] at HK
  have hok := (ok8_iff S).1 hk
  have HOW := Lib.hid (fun W (h : Below w.heap.size w W) => ownst_any _ _ _ _ _ _ _ S (by omega) W (hr.below h))
  have HPP := Lib.hid (fun d r m c v o i lo hi W (h : OwnSt W lo hi d r m c v o i S) (h1 : hi ≤ W.heap.size) (h2 : lo ≤ hi) (h3 : Below w.heap.size w W) (h4 : w.heap.size ≤ lo) => done_any d r m c v o i S k lo hi W hok hrg h hs h1 h2 (fun W2 h5 => tab_below hp (chg_below h3 h4 h5)))
  obtain ⟨T, hT⟩ : ∃ T, (if S.fault = 0 then fin8 S (word8 S k) else S) = T := ⟨_, rfl⟩
  have HT : Hid (totSt T ≤ 4000000) := Lib.hid (by
    rw [← hT]
    split
    · exact word8_tot hs
    · omega)
  have HTS : Hid (totSt S ≤ 4000000) := Lib.hid (by omega)
  rw [hT] at HPP ⊢
  clear hr hk hs hok hT hrg hp
  go_enter Tryz.func10, Tryz.ntmps10
  go_wp2_with fail
  refine (HK.out _ B0.out).mono ?_
  rintro e w1 ⟨rfl, hb1⟩
  have sz1 : w.heap.size + 2 ≤ w1.heap.size := by have := hb1.size; rw [HZ0.out] at this; exact this
  have HB1 : Hid (Below w.heap.size w w1) := Lib.hid (B0.out.trans (hb1.mono B0.out.size))
  have KP1 := Lib.hid (KP.out.below hb1 KP.out.lt)
  have KR1 := Lib.hid (KR.out.below hb1 KR.out.lt)
  obtain ⟨p0, p1, p2, p3, p4, p5, p6, p7, p8, p9⟩ := st_cells KP1.out
  obtain ⟨r0, r1, r2, r3, r4, r5, r6, r7, r8, r9⟩ := st_cells KR1.out
  have lp : w.heap.size < w1.heap.size := KP1.out.lt
  have lr : w.heap.size + 1 < w1.heap.size := KR1.out.lt
  have fp := KP1.out.frozen
  have fr := KR1.out.frozen
  clear hb1 KP KR B0 HZ0 HK
  go_wp2_with fail
  refine (HOW.out _ HB1.out).mono ?_
  rintro e w2 ⟨q0, q1, q2, q3, q4, q5, q6, rfl, ho2, hb2⟩
  have sz2 : w1.heap.size ≤ w2.heap.size := hb2.size
  have HB2 := Lib.hid (HB1.out.trans (hb2.mono HB1.out.size))
  have kr2 := KR1.out.below hb2 KR1.out.lt
  obtain ⟨⟨D0, d0, rfl⟩, ⟨D1, d1, rfl⟩, ⟨D2, d2, rfl⟩, ⟨D3, d3, rfl⟩, ⟨D4, d4, rfl⟩, ⟨D5, d5, rfl⟩, ⟨D6, d6, rfl⟩⟩ := ho2.form HTS.out
  have HO2 := Lib.hid ho2
  have KR2 := Lib.hid kr2
  clear p0 p1 p2 p3 p4 p5 p6 p7 p8 p9 r0 r1 r2 r3 r4 r5 r6 r7 r8 r9 lp lr fp fr hb2 ho2 kr2 KP1 KR1 HOW
  obtain ⟨r0, r1, r2, r3, r4, r5, r6, r7, r8, r9⟩ := st_cells KR2.out
  have fr := KR2.out.frozen
  go_wp2_with fail
  refine (HPP.out _ _ _ _ _ _ _ _ _ _ HO2.out (Nat.le_refl _) sz2 HB2.out HB1.out.size).mono ?_
  rintro e w3 ⟨v0, v1, v2, v3, v4, v5, v6, rfl, ho3, hch⟩
  have sz3 : w2.heap.size ≤ w3.heap.size := hch.size
  have kr3 := hch.blk KR2.out (g := w.heap.size + 1) (by omega)
  have HB3 : Hid (Below w.heap.size w w3) := Lib.hid (HB2.out.trans ⟨hch.os, hch.tape, hch.output, hch.size, fun k hk => hch.block k (Nat.lt_of_lt_of_le hk HB2.out.size) (by omega)⟩)
  obtain ⟨⟨C0, c0, rfl⟩, ⟨C1, c1, rfl⟩, ⟨C2, c2, rfl⟩, ⟨C3, c3, rfl⟩, ⟨C4, c4, rfl⟩, ⟨C5, c5, rfl⟩, ⟨C6, c6, rfl⟩⟩ := ho3.form HT.out
  have HO := Lib.hid ho3
  have KR3 := Lib.hid kr3
  clear r0 r1 r2 r3 r4 r5 r6 r7 r8 r9 fr hch ho3 kr3 KR2 HO2 HPP HB2 HB1
  obtain ⟨r0, r1, r2, r3, r4, r5, r6, r7, r8, r9⟩ := st_cells KR3.out
  have fr := KR3.out.frozen
  go_wp2_with fail
  have kr := KR3.out
  show bodyPost _ _ _ _ _ (putSt w3 (w.heap.size + 1) (.slice C0 T.data.length c0) (.slice C1 T.ret.length c1) (.int .i32 T.a) (.slice C2 T.mem.length c2) (.slice C3 T.cells.length c3) (.slice C4 T.vars.length c4) (.slice C5 T.out.length c5) (.slice C6 T.inp.length c6) (.int .i64 T.fault) (.int .i64 T.fuel))
  have y1 := putSt_blk kr (.slice C0 T.data.length c0) (.slice C1 T.ret.length c1) (.int .i32 T.a) (.slice C2 T.mem.length c2) (.slice C3 T.cells.length c3) (.slice C4 T.vars.length c4) (.slice C5 T.out.length c5) (.slice C6 T.inp.length c6) (.int .i64 T.fault) (.int .i64 T.fuel)
  have y2 := (HB3.out).grown (putSt_only w3 (w.heap.size + 1) (.slice C0 T.data.length c0) (.slice C1 T.ret.length c1) (.int .i32 T.a) (.slice C2 T.mem.length c2) (.slice C3 T.cells.length c3) (.slice C4 T.vars.length c4) (.slice C5 T.out.length c5) (.slice C6 T.inp.length c6) (.int .i64 T.fault) (.int .i64 T.fuel)) (HB3.out).size (fun k hk => by injection hk with hk; omega)
  have y3 := OwnSt.setSt HO.out (g := w.heap.size + 1) (.inl (by omega)) (.slice C0 T.data.length c0) (.slice C1 T.ret.length c1) (.int .i32 T.a) (.slice C2 T.mem.length c2) (.slice C3 T.cells.length c3) (.slice C4 T.vars.length c4) (.slice C5 T.out.length c5) (.slice C6 T.inp.length c6) (.int .i64 T.fault) (.int .i64 T.fuel)
  have y4 := putSt_size w3 (w.heap.size + 1) (.slice C0 T.data.length c0) (.slice C1 T.ret.length c1) (.int .i32 T.a) (.slice C2 T.mem.length c2) (.slice C3 T.cells.length c3) (.slice C4 T.vars.length c4) (.slice C5 T.out.length c5) (.slice C6 T.inp.length c6) (.int .i64 T.fault) (.int .i64 T.fuel)
  generalize putSt w3 (w.heap.size + 1) (.slice C0 T.data.length c0) (.slice C1 T.ret.length c1) (.int .i32 T.a) (.slice C2 T.mem.length c2) (.slice C3 T.cells.length c3) (.slice C4 T.vars.length c4) (.slice C5 T.out.length c5) (.slice C6 T.inp.length c6) (.int .i64 T.fault) (.int .i64 T.fuel) = W at y1 y2 y3 y4 ⊢
  obtain ⟨z0, z1, z2, z3, z4, z5, z6, z7, z8, z9⟩ := st_cells y1
  exact bodyPost_ret (v := .agg #[.slice C0 T.data.length c0, .slice C1 T.ret.length c1, .int .i32 T.a, .slice C2 T.mem.length c2, .slice C3 T.cells.length c3, .slice C4 T.vars.length c4, .slice C5 T.out.length c5, .slice C6 T.inp.length c6, .int .i64 T.fault, .int .i64 T.fuel]) (by simp [results, Tryz.results10, z0, z1, z2, z3, z4, z5, z6, z7, z8, z9, go_sem]) rfl (newst_of y3 (by omega) (by first | (rw [y4]; simp; done) | (rw [y4]; simp; omega) | omega) y2)
theorem impl_do (d r m c v o i : Value) (S : S8) (k : Int) (hs : totSt S ≤ 2500000) (hrg : Rng8 S) (w : World) (hr : RdSt w d r m c v o i S) (hp : Lib.TabIs Tryz.prog w "internal/strconv.uint64pow10" .u64 Lib.pow10Tab) : Calls Tryz.prog 10 #[.agg #[d, r, .int .i32 S.a, m, c, v, o, i, .int .i64 S.fault, .int .i64 S.fuel], .int .i64 k] w (NewSt w (do8 S k)) := by
  cases hk : ok8 S with
  | false =>
    rw [show do8 S k = zero8 by unfold do8; rw [if_neg (by rw [hk]; decide)]]
    exact ido_no d r m c v o i S k hs w hr hk
  | true =>
    rw [show do8 S k = (if S.fault = 0 then fin8 S (word8 S k) else S) by unfold do8; rw [if_pos hk]]
    exact ido_yes d r m c v o i S k hs w hr hk hrg hp
end Go.Proofs.YtdiaiflleiebfaaGreatDoor
