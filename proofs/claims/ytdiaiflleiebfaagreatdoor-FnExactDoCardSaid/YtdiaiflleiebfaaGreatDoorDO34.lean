/-
  spec.l08Other: key.
  spec.l08Other in one.
  The ranges of a state's numbers.
  spec.Do: a built-in word.
  What impl.tried hands back.
-/
import Derived.Test.YtdiaiflleiebfaaGreatDoorDO28
import Derived.Test.YtdiaiflleiebfaaGreatDoorDO16
import Derived.Test.YtdiaiflleiebfaaGreatDoorDO13
import Derived.Test.YtdiaiflleiebfaaGreatDoorDO29
import Derived.Test.YtdiaiflleiebfaaGreatDoorDO30
import Derived.Test.YtdiaiflleiebfaaGreatDoorDO31
import Derived.Test.YtdiaiflleiebfaaGreatDoorDO32
import Derived.Test.YtdiaiflleiebfaaGreatDoorDO33
import Derived.Test.YtdiaiflleiebfaaGreatDoorDO4
import Derived.Test.YtdiaiflleiebfaaGreatDoorDO17
import Derived.Test.YtdiaiflleiebfaaGreatDoorDO18
namespace Go.Proofs.YtdiaiflleiebfaaGreatDoor
open Go.RowKit Go

theorem tail_le {w : World} {lo e n cap : Nat} {A : Option Addr} {xs : List Value} (h : TailB w lo e (.slice A n cap) n xs) : n ≤ cap := by
  rcases h.2 with ⟨e1, h0⟩ | ⟨g, s, cp, cur, e1, -, -, h2, -⟩
  · omega
  · injection e1 with e1 e2 e3
    omega
set_option maxRecDepth 100000 in
set_option maxHeartbeats 3000000 in
theorem key_some (d r m c v o i : Value) (S : S8) (x y : Int) (_hx0 : -2147483648 ≤ x) (_hx1 : x ≤ 2147483647) (_hy0 : -2147483648 ≤ y) (_hy1 : y ≤ 2147483647) (rest : List Nat) (b0 : Nat) (hinp : S.inp = b0 :: rest) (hb : b0 < 256) (h16 : S.data.length < 16) (hf : S.fault = 0) (hs : totSt S ≤ 2500000) (w : World) (hr : RdSt w d r m c v o i S) (hok : Ok8 S) :
    Calls Tryz.prog 43 #[.agg #[d, r, .int .i32 S.a, m, c, v, o, i, .int .i64 S.fault, .int .i64 S.fuel], .string ⟨#[107, 101, 121]⟩, .int .i32 x, .int .i32 y] w (NewSt w (fin8 S (prim8 18 S x y))) := by
  have hform := hr.form
  obtain ⟨⟨A0, a0, rfl⟩, ⟨A1, a1, rfl⟩, ⟨A2, a2, rfl⟩, ⟨A3, a3, rfl⟩, ⟨A4, a4, rfl⟩, ⟨A5, a5, rfl⟩, ⟨A6, a6, rfl⟩⟩ := hform
  have e1 : (w.alloc (.cells #[.slice A0 S.data.length a0, .slice A1 S.ret.length a1, .int .i32 S.a, .slice A2 S.mem.length a2, .slice A3 S.cells.length a3, .slice A4 S.vars.length a4, .slice A5 S.out.length a5, .slice A6 S.inp.length a6, .int .i64 S.fault, .int .i64 S.fuel] 29)).heap.size = w.heap.size + 1 := by simp
  have KP := Lib.hid (((Blk.new w 29 #[.slice A0 S.data.length a0, .slice A1 S.ret.length a1, .int .i32 S.a, .slice A2 S.mem.length a2, .slice A3 S.cells.length a3, .slice A4 S.vars.length a4, .slice A5 S.out.length a5, .slice A6 S.inp.length a6, .int .i64 S.fault, .int .i64 S.fuel]).alloc (.cells #[.slice none 0 0, .slice none 0 0, .int .i32 0, .slice none 0 0, .slice none 0 0, .slice none 0 0, .slice none 0 0, .slice none 0 0, .int .i64 0, .int .i64 0] 29)))
  have KR : Hid (Blk ((w.alloc (.cells #[.slice A0 S.data.length a0, .slice A1 S.ret.length a1, .int .i32 S.a, .slice A2 S.mem.length a2, .slice A3 S.cells.length a3, .slice A4 S.vars.length a4, .slice A5 S.out.length a5, .slice A6 S.inp.length a6, .int .i64 S.fault, .int .i64 S.fuel] 29)).alloc (.cells #[.slice none 0 0, .slice none 0 0, .int .i32 0, .slice none 0 0, .slice none 0 0, .slice none 0 0, .slice none 0 0, .slice none 0 0, .int .i64 0, .int .i64 0] 29)) (w.heap.size + 1) 29 #[.slice none 0 0, .slice none 0 0, .int .i32 0, .slice none 0 0, .slice none 0 0, .slice none 0 0, .slice none 0 0, .slice none 0 0, .int .i64 0, .int .i64 0]) := Lib.hid (by have := Blk.new (w.alloc (.cells #[.slice A0 S.data.length a0, .slice A1 S.ret.length a1, .int .i32 S.a, .slice A2 S.mem.length a2, .slice A3 S.cells.length a3, .slice A4 S.vars.length a4, .slice A5 S.out.length a5, .slice A6 S.inp.length a6, .int .i64 S.fault, .int .i64 S.fuel] 29)) 29 #[.slice none 0 0, .slice none 0 0, .int .i32 0, .slice none 0 0, .slice none 0 0, .slice none 0 0, .slice none 0 0, .slice none 0 0, .int .i64 0, .int .i64 0]; rw [e1] at this; exact this)
  have B0 : Hid (Below w.heap.size w ((w.alloc (.cells #[.slice A0 S.data.length a0, .slice A1 S.ret.length a1, .int .i32 S.a, .slice A2 S.mem.length a2, .slice A3 S.cells.length a3, .slice A4 S.vars.length a4, .slice A5 S.out.length a5, .slice A6 S.inp.length a6, .int .i64 S.fault, .int .i64 S.fuel] 29)).alloc (.cells #[.slice none 0 0, .slice none 0 0, .int .i32 0, .slice none 0 0, .slice none 0 0, .slice none 0 0, .slice none 0 0, .slice none 0 0, .int .i64 0, .int .i64 0] 29))) := Lib.hid (below_alloc2 w _ _)
  have Z0 : ((w.alloc (.cells #[.slice A0 S.data.length a0, .slice A1 S.ret.length a1, .int .i32 S.a, .slice A2 S.mem.length a2, .slice A3 S.cells.length a3, .slice A4 S.vars.length a4, .slice A5 S.out.length a5, .slice A6 S.inp.length a6, .int .i64 S.fault, .int .i64 S.fuel] 29)).alloc (.cells #[.slice none 0 0, .slice none 0 0, .int .i32 0, .slice none 0 0, .slice none 0 0, .slice none 0 0, .slice none 0 0, .slice none 0 0, .int .i64 0, .int .i64 0] 29)).heap.size = w.heap.size + 2 := by simp
  have HZ0 := Lib.hid Z0
  clear Z0 e1
  have hlt : 0 ≤ S.data.length := Nat.zero_le _
  have hdl := hok.data
  have HPUT := Lib.hid (fun lv W (h : Below w.heap.size w W) (hv : RdI W lv [(b0 : Int)]) => spec_put _ _ _ _ _ _ _ S 0 lv [(b0 : Int)] hlt (by simp) hdl (by omega) W (hr.below h) hv)
  obtain ⟨T, hT0⟩ : ∃ T, ({ S with data := S.data.take (S.data.length - 0) ++ [(b0 : Int)] } : S8) = T := ⟨_, rfl⟩
  have hT : fin8 S (put8 S 0 [(b0 : Int)]) = T := by
    rw [← hT0]
    unfold put8
    rw [if_neg (by simp; omega)]
    rfl
  have HT : Hid (totSt T ≤ 4000000) := Lib.hid (by rw [← hT]; exact put8_tot hs)
  have hpr : prim8 18 S x y = put8 { S with inp := rest } 0 [(b0 : Int)] := by unfold prim8; simp only [hinp]
  have hres : fin8 S (prim8 18 S x y) = { T with inp := rest } := by
    rw [← hT0, hpr]
    unfold put8
    rw [if_neg (by simp; omega)]
    rfl
  rw [hT] at HPUT
  rw [hres]
  have hTi : T.inp = S.inp := by rw [← hT0]
  have HTI := Lib.hid hTi
  have HTF : Hid (T.fault = 0) := Lib.hid (by rw [← hT0]; exact hf)
  have hil : S.inp.length = rest.length + 1 := by rw [hinp]; rfl
  have hi100 := hok.inp
  obtain ⟨k, hk⟩ : ∃ k, rest.length = k := ⟨_, rfl⟩
  have HK := Lib.hid hk
  have hcell : ∃ ai, A6 = some ai ∧ ai.block < w.heap.size ∧ w.cell? (ai.add 0) = some (.int .u8 (b0 : Int)) := by
    obtain ⟨A, cp, e, -, hc⟩ := hr.i
    injection e with e1 e2 e3
    subst e1
    obtain ⟨a, h1, h2, h3⟩ := hc 0 (by omega)
    refine ⟨a, h1, h2, ?_⟩
    rw [h3]
    simp only [hinp, List.getElem_cons_zero]
    rfl
  obtain ⟨ai, hA6, lai, cai⟩ := hcell
  rw [show ai.add 0 = ai by simp [Addr.add]] at cai
  subst hA6
  have i1 : (0 : Int) < (S.inp.length : Int) := by omega
  have b1 : (b0 : Int) < 256 := by omega
  have b2 : (0 : Int) ≤ (b0 : Int) := by omega
  have HINP := Lib.hid hinp
  have HV : Hid (RdI (((w.alloc (.cells #[.slice A0 S.data.length a0, .slice A1 S.ret.length a1, .int .i32 S.a, .slice A2 S.mem.length a2, .slice A3 S.cells.length a3, .slice A4 S.vars.length a4, .slice A5 S.out.length a5, .slice (some ai) S.inp.length a6, .int .i64 S.fault, .int .i64 S.fuel] 29)).alloc (.cells #[.slice none 0 0, .slice none 0 0, .int .i32 0, .slice none 0 0, .slice none 0 0, .slice none 0 0, .slice none 0 0, .slice none 0 0, .int .i64 0, .int .i64 0] 29)).alloc (.cells #[.int .i32 ((b0 : Int))] 21)) (.slice (some ⟨w.heap.size + 1 + 1, 0, none⟩) 1 1) [(b0 : Int)]) := Lib.hid (by have h := rdI_new ((w.alloc (.cells #[.slice A0 S.data.length a0, .slice A1 S.ret.length a1, .int .i32 S.a, .slice A2 S.mem.length a2, .slice A3 S.cells.length a3, .slice A4 S.vars.length a4, .slice A5 S.out.length a5, .slice (some ai) S.inp.length a6, .int .i64 S.fault, .int .i64 S.fuel] 29)).alloc (.cells #[.slice none 0 0, .slice none 0 0, .int .i32 0, .slice none 0 0, .slice none 0 0, .slice none 0 0, .slice none 0 0, .slice none 0 0, .int .i64 0, .int .i64 0] 29)) 21 [(b0 : Int)] (by simp); rw [HZ0.out] at h; exact h)
  clear hr hs hok hlt hdl hinp h16 hres hpr hT hT0 hTi hf hil hi100 hk hb
  go_enter Tryz.func43, Tryz.ntmps43
  go_wp2_with fail
  refine (HPUT.out _ _ (B0.out.alloc B0.out.size _) HV.out).mono ?_
  rintro e w1 ⟨v0, v1, v2, v3, v4, v5, v6, rfl, ho, hb1⟩
  have sz1 : w.heap.size + 2 ≤ w1.heap.size := by have := hb1.size; first | (rw [HZ0.out] at this; exact this) | (rw [World.size_alloc, HZ0.out] at this; omega)
  have hlo1 : w.heap.size + 2 ≤ (((w.alloc (.cells #[.slice A0 S.data.length a0, .slice A1 S.ret.length a1, .int .i32 S.a, .slice A2 S.mem.length a2, .slice A3 S.cells.length a3, .slice A4 S.vars.length a4, .slice A5 S.out.length a5, .slice (some ai) S.inp.length a6, .int .i64 S.fault, .int .i64 S.fuel] 29)).alloc (.cells #[.slice none 0 0, .slice none 0 0, .int .i32 0, .slice none 0 0, .slice none 0 0, .slice none 0 0, .slice none 0 0, .slice none 0 0, .int .i64 0, .int .i64 0] 29)).alloc (.cells #[.int .i32 ((b0 : Int))] 21)).heap.size := by first | (rw [HZ0.out]; exact Nat.le_refl _) | (rw [World.size_alloc, HZ0.out]; omega)
  have HB1 : Hid (Below w.heap.size w w1) := Lib.hid ((B0.out.alloc B0.out.size (.cells #[.int .i32 ((b0 : Int))] 21)).trans (hb1.mono (B0.out.alloc B0.out.size (.cells #[.int .i32 ((b0 : Int))] 21)).size))
  have KR1 := Lib.hid ((KR.out.alloc (.cells #[.int .i32 ((b0 : Int))] 21)).below hb1 (KR.out.alloc (.cells #[.int .i32 ((b0 : Int))] 21)).lt)
  have HO1 := Lib.hid (ho.mono (l2 := w.heap.size + 2) (h2 := w1.heap.size) hlo1 (Nat.le_refl _))
  obtain ⟨⟨C0, c0, rfl⟩, ⟨C1, c1, rfl⟩, ⟨C2, c2, rfl⟩, ⟨C3, c3, rfl⟩, ⟨C4, c4, rfl⟩, ⟨C5, c5, rfl⟩, ⟨C6, c6, rfl⟩⟩ := ho.form (S := T) HT.out
  clear ho hb1 KP KR B0 HZ0 hlo1
  obtain ⟨r0, r1, r2, r3, r4, r5, r6, r7, r8, r9⟩ := st_cells KR1.out
  have lr : w.heap.size + 1 < w1.heap.size := KR1.out.lt
  have fr := KR1.out.frozen
  have f2 : (T.fault == 0) = true := by simp [HTF.out]
  have htl : T.inp.length = k + 1 := by rw [HTI.out, HINP.out, List.length_cons, HK.out]
  have i2 : (0 : Int) < (T.inp.length : Int) := by omega
  have i4 : (1 : Int) ≤ (T.inp.length : Int) := by omega
  have htl2 : (T.inp.length : Int) - 1 = (k : Int) := by omega
  have htl3 : T.inp.length - 1 = k := by omega
  have hp0 := HO1.out
  have hti := HTI.out
  have hcap : T.inp.length ≤ c6 := tail_le hp0.i
  have hcap2 : (T.inp.length : Int) ≤ (c6 : Int) := by omega
  rw [htl] at hp0
  have HPP := Lib.hid (hp0.dropInp (hti.trans HINP.out) HK.out)
  have hc61 : 1 ≤ c6 := by omega
  clear hp0 hti htl
  by_cases hc6 : c6 = 1
  · subst hc6
    have hk0 : k = 0 := by omega
    have HP := HPP
    rw [if_pos rfl] at HP
    subst hk0
    clear HPP
    go_upto_region 25 with (fail)
    have kr := KR1.out.alloc (.cells #[.slice C0 T.data.length c0, .slice C1 T.ret.length c1, .int .i32 T.a, .slice C2 T.mem.length c2, .slice C3 T.cells.length c3, .slice C4 T.vars.length c4, .slice C5 T.out.length c5, .slice C6 0 0, .int .i64 T.fault, .int .i64 T.fuel] 29)
    have ko := Blk.new w1 29 #[.slice C0 T.data.length c0, .slice C1 T.ret.length c1, .int .i32 T.a, .slice C2 T.mem.length c2, .slice C3 T.cells.length c3, .slice C4 T.vars.length c4, .slice C5 T.out.length c5, .slice C6 0 0, .int .i64 T.fault, .int .i64 T.fuel]
    have oz := HP.out.alloc (.cells #[.slice C0 T.data.length c0, .slice C1 T.ret.length c1, .int .i32 T.a, .slice C2 T.mem.length c2, .slice C3 T.cells.length c3, .slice C4 T.vars.length c4, .slice C5 T.out.length c5, .slice C6 0 0, .int .i64 T.fault, .int .i64 T.fuel] 29)
    have bz := HB1.out.alloc HB1.out.size (.cells #[.slice C0 T.data.length c0, .slice C1 T.ret.length c1, .int .i32 T.a, .slice C2 T.mem.length c2, .slice C3 T.cells.length c3, .slice C4 T.vars.length c4, .slice C5 T.out.length c5, .slice C6 0 0, .int .i64 T.fault, .int .i64 T.fuel] 29)
    have hz := bz.size
    have hy : w1.heap.size ≤ (w1.alloc (.cells #[.slice C0 T.data.length c0, .slice C1 T.ret.length c1, .int .i32 T.a, .slice C2 T.mem.length c2, .slice C3 T.cells.length c3, .slice C4 T.vars.length c4, .slice C5 T.out.length c5, .slice C6 0 0, .int .i64 T.fault, .int .i64 T.fuel] 29)).heap.size := by first | (simp only [World.size_alloc]; omega) | (simp only [World.size_setCell]; omega) | (simp only [World.size_alloc, World.size_setCell]; omega)
    generalize (w1.alloc (.cells #[.slice C0 T.data.length c0, .slice C1 T.ret.length c1, .int .i32 T.a, .slice C2 T.mem.length c2, .slice C3 T.cells.length c3, .slice C4 T.vars.length c4, .slice C5 T.out.length c5, .slice C6 0 0, .int .i64 T.fault, .int .i64 T.fuel] 29)) = wz at kr ko oz bz hz hy ⊢
    obtain ⟨m0, m1, m2, m3, m4, m5, m6, m7, m8, m9⟩ := st_cells ko
    obtain ⟨n0_, n1_, n2_, n3_, n4_, n5_, n6_, n7_, n8_, n9_⟩ := st_cells kr
    have lz1 : w.heap.size + 1 < wz.heap.size := kr.lt
    have lz2 : w1.heap.size < wz.heap.size := ko.lt
    have fz1 := kr.frozen
    have fz2 := ko.frozen
    have KRZ := Lib.hid kr
    have OZ := Lib.hid oz
    have BZ := Lib.hid bz
    clear kr ko oz bz
    go_wp2_with fail
    have kr := KRZ.out
    show bodyPost _ _ _ _ _ (putSt wz (w.heap.size + 1) (.slice C0 T.data.length c0) (.slice C1 T.ret.length c1) (.int .i32 T.a) (.slice C2 T.mem.length c2) (.slice C3 T.cells.length c3) (.slice C4 T.vars.length c4) (.slice C5 T.out.length c5) (.slice C6 0 0) (.int .i64 T.fault) (.int .i64 T.fuel))
    have y1 := putSt_blk kr (.slice C0 T.data.length c0) (.slice C1 T.ret.length c1) (.int .i32 T.a) (.slice C2 T.mem.length c2) (.slice C3 T.cells.length c3) (.slice C4 T.vars.length c4) (.slice C5 T.out.length c5) (.slice C6 0 0) (.int .i64 T.fault) (.int .i64 T.fuel)
    have y2 := (BZ.out).grown (putSt_only wz (w.heap.size + 1) (.slice C0 T.data.length c0) (.slice C1 T.ret.length c1) (.int .i32 T.a) (.slice C2 T.mem.length c2) (.slice C3 T.cells.length c3) (.slice C4 T.vars.length c4) (.slice C5 T.out.length c5) (.slice C6 0 0) (.int .i64 T.fault) (.int .i64 T.fuel)) (BZ.out).size (fun k hk => by injection hk with hk; omega)
    have y3 := OwnSt.setSt OZ.out (g := w.heap.size + 1) (.inl (by omega)) (.slice C0 T.data.length c0) (.slice C1 T.ret.length c1) (.int .i32 T.a) (.slice C2 T.mem.length c2) (.slice C3 T.cells.length c3) (.slice C4 T.vars.length c4) (.slice C5 T.out.length c5) (.slice C6 0 0) (.int .i64 T.fault) (.int .i64 T.fuel)
    have y4 := putSt_size wz (w.heap.size + 1) (.slice C0 T.data.length c0) (.slice C1 T.ret.length c1) (.int .i32 T.a) (.slice C2 T.mem.length c2) (.slice C3 T.cells.length c3) (.slice C4 T.vars.length c4) (.slice C5 T.out.length c5) (.slice C6 0 0) (.int .i64 T.fault) (.int .i64 T.fuel)
    generalize putSt wz (w.heap.size + 1) (.slice C0 T.data.length c0) (.slice C1 T.ret.length c1) (.int .i32 T.a) (.slice C2 T.mem.length c2) (.slice C3 T.cells.length c3) (.slice C4 T.vars.length c4) (.slice C5 T.out.length c5) (.slice C6 0 0) (.int .i64 T.fault) (.int .i64 T.fuel) = W at y1 y2 y3 y4 ⊢
    obtain ⟨z0, z1, z2, z3, z4, z5, z6, z7, z8, z9⟩ := st_cells y1
    exact bodyPost_ret (v := .agg #[.slice C0 T.data.length c0, .slice C1 T.ret.length c1, .int .i32 T.a, .slice C2 T.mem.length c2, .slice C3 T.cells.length c3, .slice C4 T.vars.length c4, .slice C5 T.out.length c5, .slice C6 0 0, .int .i64 T.fault, .int .i64 T.fuel]) (by simp [results, Tryz.results43, z0, z1, z2, z3, z4, z5, z6, z7, z8, z9, go_sem]) rfl (newst_of y3 (by omega) (by first | (rw [y4]; simp; done) | (rw [y4]; simp; omega) | omega) y2)
  · have HP := HPP
    rw [if_neg hc6, show (fun x : Addr => x.add 1) = (fun x => (⟨x.block, x.off + 1, none⟩ : Addr)) from funext fun x => by simp [Addr.add]] at HP
    clear HPP
    go_upto_region 25 with (fail)
    have kr := KR1.out.alloc (.cells #[.slice C0 T.data.length c0, .slice C1 T.ret.length c1, .int .i32 T.a, .slice C2 T.mem.length c2, .slice C3 T.cells.length c3, .slice C4 T.vars.length c4, .slice C5 T.out.length c5, .slice (C6.map fun x => (⟨x.block, x.off + 1, none⟩ : Addr)) k (c6 - 1), .int .i64 T.fault, .int .i64 T.fuel] 29)
    have ko := Blk.new w1 29 #[.slice C0 T.data.length c0, .slice C1 T.ret.length c1, .int .i32 T.a, .slice C2 T.mem.length c2, .slice C3 T.cells.length c3, .slice C4 T.vars.length c4, .slice C5 T.out.length c5, .slice (C6.map fun x => (⟨x.block, x.off + 1, none⟩ : Addr)) k (c6 - 1), .int .i64 T.fault, .int .i64 T.fuel]
    have oz := HP.out.alloc (.cells #[.slice C0 T.data.length c0, .slice C1 T.ret.length c1, .int .i32 T.a, .slice C2 T.mem.length c2, .slice C3 T.cells.length c3, .slice C4 T.vars.length c4, .slice C5 T.out.length c5, .slice (C6.map fun x => (⟨x.block, x.off + 1, none⟩ : Addr)) k (c6 - 1), .int .i64 T.fault, .int .i64 T.fuel] 29)
    have bz := HB1.out.alloc HB1.out.size (.cells #[.slice C0 T.data.length c0, .slice C1 T.ret.length c1, .int .i32 T.a, .slice C2 T.mem.length c2, .slice C3 T.cells.length c3, .slice C4 T.vars.length c4, .slice C5 T.out.length c5, .slice (C6.map fun x => (⟨x.block, x.off + 1, none⟩ : Addr)) k (c6 - 1), .int .i64 T.fault, .int .i64 T.fuel] 29)
    have hz := bz.size
    have hy : w1.heap.size ≤ (w1.alloc (.cells #[.slice C0 T.data.length c0, .slice C1 T.ret.length c1, .int .i32 T.a, .slice C2 T.mem.length c2, .slice C3 T.cells.length c3, .slice C4 T.vars.length c4, .slice C5 T.out.length c5, .slice (C6.map fun x => (⟨x.block, x.off + 1, none⟩ : Addr)) k (c6 - 1), .int .i64 T.fault, .int .i64 T.fuel] 29)).heap.size := by first | (simp only [World.size_alloc]; omega) | (simp only [World.size_setCell]; omega) | (simp only [World.size_alloc, World.size_setCell]; omega)
    generalize (w1.alloc (.cells #[.slice C0 T.data.length c0, .slice C1 T.ret.length c1, .int .i32 T.a, .slice C2 T.mem.length c2, .slice C3 T.cells.length c3, .slice C4 T.vars.length c4, .slice C5 T.out.length c5, .slice (C6.map fun x => (⟨x.block, x.off + 1, none⟩ : Addr)) k (c6 - 1), .int .i64 T.fault, .int .i64 T.fuel] 29)) = wz at kr ko oz bz hz hy ⊢
    obtain ⟨m0, m1, m2, m3, m4, m5, m6, m7, m8, m9⟩ := st_cells ko
    obtain ⟨n0_, n1_, n2_, n3_, n4_, n5_, n6_, n7_, n8_, n9_⟩ := st_cells kr
    have lz1 : w.heap.size + 1 < wz.heap.size := kr.lt
    have lz2 : w1.heap.size < wz.heap.size := ko.lt
    have fz1 := kr.frozen
    have fz2 := ko.frozen
    have KRZ := Lib.hid kr
    have OZ := Lib.hid oz
    have BZ := Lib.hid bz
    clear kr ko oz bz
    go_wp2_with fail
    have kr := KRZ.out
    show bodyPost _ _ _ _ _ (putSt wz (w.heap.size + 1) (.slice C0 T.data.length c0) (.slice C1 T.ret.length c1) (.int .i32 T.a) (.slice C2 T.mem.length c2) (.slice C3 T.cells.length c3) (.slice C4 T.vars.length c4) (.slice C5 T.out.length c5) (.slice (C6.map fun x => (⟨x.block, x.off + 1, none⟩ : Addr)) k (c6 - 1)) (.int .i64 T.fault) (.int .i64 T.fuel))
    have y1 := putSt_blk kr (.slice C0 T.data.length c0) (.slice C1 T.ret.length c1) (.int .i32 T.a) (.slice C2 T.mem.length c2) (.slice C3 T.cells.length c3) (.slice C4 T.vars.length c4) (.slice C5 T.out.length c5) (.slice (C6.map fun x => (⟨x.block, x.off + 1, none⟩ : Addr)) k (c6 - 1)) (.int .i64 T.fault) (.int .i64 T.fuel)
    have y2 := (BZ.out).grown (putSt_only wz (w.heap.size + 1) (.slice C0 T.data.length c0) (.slice C1 T.ret.length c1) (.int .i32 T.a) (.slice C2 T.mem.length c2) (.slice C3 T.cells.length c3) (.slice C4 T.vars.length c4) (.slice C5 T.out.length c5) (.slice (C6.map fun x => (⟨x.block, x.off + 1, none⟩ : Addr)) k (c6 - 1)) (.int .i64 T.fault) (.int .i64 T.fuel)) (BZ.out).size (fun k hk => by injection hk with hk; omega)
    have y3 := OwnSt.setSt OZ.out (g := w.heap.size + 1) (.inl (by omega)) (.slice C0 T.data.length c0) (.slice C1 T.ret.length c1) (.int .i32 T.a) (.slice C2 T.mem.length c2) (.slice C3 T.cells.length c3) (.slice C4 T.vars.length c4) (.slice C5 T.out.length c5) (.slice (C6.map fun x => (⟨x.block, x.off + 1, none⟩ : Addr)) k (c6 - 1)) (.int .i64 T.fault) (.int .i64 T.fuel)
    have y4 := putSt_size wz (w.heap.size + 1) (.slice C0 T.data.length c0) (.slice C1 T.ret.length c1) (.int .i32 T.a) (.slice C2 T.mem.length c2) (.slice C3 T.cells.length c3) (.slice C4 T.vars.length c4) (.slice C5 T.out.length c5) (.slice (C6.map fun x => (⟨x.block, x.off + 1, none⟩ : Addr)) k (c6 - 1)) (.int .i64 T.fault) (.int .i64 T.fuel)
    generalize putSt wz (w.heap.size + 1) (.slice C0 T.data.length c0) (.slice C1 T.ret.length c1) (.int .i32 T.a) (.slice C2 T.mem.length c2) (.slice C3 T.cells.length c3) (.slice C4 T.vars.length c4) (.slice C5 T.out.length c5) (.slice (C6.map fun x => (⟨x.block, x.off + 1, none⟩ : Addr)) k (c6 - 1)) (.int .i64 T.fault) (.int .i64 T.fuel) = W at y1 y2 y3 y4 ⊢
    obtain ⟨z0, z1, z2, z3, z4, z5, z6, z7, z8, z9⟩ := st_cells y1
    exact bodyPost_ret (v := .agg #[.slice C0 T.data.length c0, .slice C1 T.ret.length c1, .int .i32 T.a, .slice C2 T.mem.length c2, .slice C3 T.cells.length c3, .slice C4 T.vars.length c4, .slice C5 T.out.length c5, .slice (C6.map fun x => (⟨x.block, x.off + 1, none⟩ : Addr)) k (c6 - 1), .int .i64 T.fault, .int .i64 T.fuel]) (by simp [results, Tryz.results43, z0, z1, z2, z3, z4, z5, z6, z7, z8, z9, go_sem]) rfl (newst_of y3 (by omega) (by first | (rw [y4]; simp; done) | (rw [y4]; simp; omega) | omega) y2)
end Go.Proofs.YtdiaiflleiebfaaGreatDoor

namespace Go.Proofs.YtdiaiflleiebfaaGreatDoor
open Go.RowKit Go

theorem key_all (d r m c v o i : Value) (S : S8) (x y : Int) (hx0 : -2147483648 ≤ x) (hx1 : x ≤ 2147483647) (hy0 : -2147483648 ≤ y) (hy1 : y ≤ 2147483647) (hok : Ok8 S) (hf : S.fault = 0) (hin : ∀ b ∈ S.inp, b < 256) (hs : totSt S ≤ 2500000) (w : World) (hr : RdSt w d r m c v o i S) :
    Calls Tryz.prog 43 #[.agg #[d, r, .int .i32 S.a, m, c, v, o, i, .int .i64 S.fault, .int .i64 S.fuel], .string ⟨#[107, 101, 121]⟩, .int .i32 x, .int .i32 y] w (NewSt w (fin8 S (prim8 18 S x y))) := by
  have hd := hok.data
  cases hi : S.inp with
  | nil =>
    by_cases h16 : S.data.length < 16
    · exact key_none d r m c v o i S x y hx0 hx1 hy0 hy1 hi h16 hf hs w hr hok
    · exact key_none_full d r m c v o i S x y hx0 hx1 hy0 hy1 hi (by omega) hs w hr hok
  | cons b0 rest =>
    have hb := hin b0 (by rw [hi]; simp)
    by_cases h16 : S.data.length < 16
    · exact key_some d r m c v o i S x y hx0 hx1 hy0 hy1 rest b0 hi hb h16 hf hs w hr hok
    · exact key_some_full d r m c v o i S x y hx0 hx1 hy0 hy1 rest b0 hi hb (by omega) hs w hr hok
theorem push_all (d r m c v o i : Value) (S : S8) (x y : Int) (hx0 : -2147483648 ≤ x) (hx1 : x ≤ 2147483647) (hy0 : -2147483648 ≤ y) (hy1 : y ≤ 2147483647) (hok : Ok8 S) (ht : 1 ≤ S.data.length) (hs : totSt S ≤ 2500000) (w : World) (hr : RdSt w d r m c v o i S) :
    Calls Tryz.prog 43 #[.agg #[d, r, .int .i32 S.a, m, c, v, o, i, .int .i64 S.fault, .int .i64 S.fuel], .string ⟨#[112, 117, 115, 104]⟩, .int .i32 x, .int .i32 y] w (NewSt w (fin8 S (prim8 19 S x y))) := by
  by_cases h24 : S.ret.length = 24
  · exact push_full d r m c v o i S x y hx0 hx1 hy0 hy1 h24 hs w hr hok
  · exact push_put d r m c v o i S x y hx0 hx1 hy0 hy1 h24 hs w hr hok ht
theorem spec_other (k : Nat) (hk : k < 24) (hp : isPure k = false) (d r m c v o i : Value) (S : S8) (x y : Int) (hx0 : -2147483648 ≤ x) (hx1 : x ≤ 2147483647) (hy0 : -2147483648 ≤ y) (hy1 : y ≤ 2147483647) (hok : Ok8 S) (hf : S.fault = 0) (hin : ∀ b ∈ S.inp, b < 256) (ht : takes8 k ≤ S.data.length) (hs : totSt S ≤ 2500000) (w : World) (hr : RdSt w d r m c v o i S) :
    Calls Tryz.prog 43 #[.agg #[d, r, .int .i32 S.a, m, c, v, o, i, .int .i64 S.fault, .int .i64 S.fuel], .string (primNames.getD k ⟨#[]⟩), .int .i32 x, .int .i32 y] w (NewSt w (fin8 S (prim8 k S x y))) := by
  match k, hk, hp, ht with
  | 0, _, h, _ => exact absurd h (by decide)
  | 1, _, h, _ => exact absurd h (by decide)
  | 2, _, h, _ => exact absurd h (by decide)
  | 3, _, h, _ => exact absurd h (by decide)
  | 4, _, h, _ => exact absurd h (by decide)
  | 5, _, h, _ => exact absurd h (by decide)
  | 6, _, h, _ => exact absurd h (by decide)
  | 7, _, h, _ => exact absurd h (by decide)
  | 8, _, h, _ => exact absurd h (by decide)
  | 9, _, h, _ => exact absurd h (by decide)
  | 10, _, h, _ => exact absurd h (by decide)
  | 11, _, h, _ => exact absurd h (by decide)
  | 12, _, _, ht => exact other_12 d r m c v o i S x y hx0 hx1 hy0 hy1 hs w hr hok ht
  | 13, _, _, ht => exact other_13 d r m c v o i S x y hx0 hx1 hy0 hy1 hs w hr hok ht
  | 14, _, _, ht => exact other_14 d r m c v o i S x y hx0 hx1 hy0 hy1 hs w hr hok ht
  | 15, _, _, ht => exact other_15 d r m c v o i S x y hx0 hx1 hy0 hy1 hs w hr hok
  | 16, _, _, ht => exact other_16 d r m c v o i S x y hx0 hx1 hy0 hy1 hs w hr hok ht
  | 17, _, _, ht => exact other_17 d r m c v o i S x y hx0 hx1 hy0 hy1 hs w hr hok ht
  | 18, _, _, _ => exact key_all d r m c v o i S x y hx0 hx1 hy0 hy1 hok hf hin hs w hr
  | 19, _, _, ht => exact push_all d r m c v o i S x y hx0 hx1 hy0 hy1 hok ht hs w hr
  | 20, _, _, ht => exact other_20 d r m c v o i S x y hx0 hx1 hy0 hy1 hs w hr hok hf
  | 21, _, _, ht => exact other_21 d r m c v o i S x y hx0 hx1 hy0 hy1 hs w hr hok
  | 22, _, _, ht => exact other_22 d r m c v o i S x y hx0 hx1 hy0 hy1 hs w hr hok ht
  | 23, _, h, _ => exact absurd h (by decide)
  | k + 24, h, _, _ => omega
end Go.Proofs.YtdiaiflleiebfaaGreatDoor

namespace Go.Proofs.YtdiaiflleiebfaaGreatDoor
open Go.RowKit Go

/-- What holds of a state's numbers: 32 bits; bytes. -/
structure Rng8 (S : S8) : Prop where
  data : ∀ x ∈ S.data, -2147483648 ≤ x ∧ x ≤ 2147483647
  inp : ∀ x ∈ S.inp, x < 256
theorem Rng8.top {S : S8} (h : Rng8 S) (i : Nat) : -2147483648 ≤ top8 S i ∧ top8 S i ≤ 2147483647 := by
  unfold top8 List.getD
  cases hq : S.data[S.data.length - 1 - i]? with
  | none => simp
  | some x => exact h.data x (List.mem_of_getElem? hq)
theorem Ok8.place {S : S8} (h : Ok8 S) {x : Int} (hx : x ∈ S.vars) : 0 ≤ x ∧ x < (S.cells.length : Int) := by
  obtain ⟨i, hi, rfl⟩ := List.getElem_of_mem hx
  have := of_decide_eq_true h.places i hi
  exact this.1
end Go.Proofs.YtdiaiflleiebfaaGreatDoor

namespace Go.Proofs.YtdiaiflleiebfaaGreatDoor
open Go.RowKit Go

theorem prim8_t0 (k : Nat) (hk : k < 24) (ht : takes8 k = 0) (hp : isPure k = false) (S : S8) (x y x2 y2 : Int) : prim8 k S x y = prim8 k S x2 y2 := by
  match k, hk, ht, hp with
  | 0, _, h, _ => exact absurd h (by decide)
  | 1, _, h, _ => exact absurd h (by decide)
  | 2, _, h, _ => exact absurd h (by decide)
  | 3, _, h, _ => exact absurd h (by decide)
  | 4, _, h, _ => exact absurd h (by decide)
  | 5, _, h, _ => exact absurd h (by decide)
  | 6, _, h, _ => exact absurd h (by decide)
  | 7, _, h, _ => exact absurd h (by decide)
  | 8, _, h, _ => exact absurd h (by decide)
  | 9, _, h, _ => exact absurd h (by decide)
  | 10, _, h, _ => exact absurd h (by decide)
  | 11, _, h, _ => exact absurd h (by decide)
  | 12, _, h, _ => exact absurd h (by decide)
  | 13, _, h, _ => exact absurd h (by decide)
  | 14, _, h, _ => exact absurd h (by decide)
  | 15, _, _, _ => simp only [prim8]
  | 16, _, h, _ => exact absurd h (by decide)
  | 17, _, h, _ => exact absurd h (by decide)
  | 18, _, _, _ => simp only [prim8]
  | 19, _, h, _ => exact absurd h (by decide)
  | 20, _, _, _ => simp only [prim8]
  | 21, _, _, _ => simp only [prim8]
  | 22, _, h, _ => exact absurd h (by decide)
  | 23, _, _, h => exact absurd h (by decide)
  | k + 24, h, _, _ => omega
theorem prim8_t1 (k : Nat) (hk : k < 24) (ht : takes8 k = 1) (hp : isPure k = false) (S : S8) (x x2 y : Int) : prim8 k S x y = prim8 k S x2 y := by
  match k, hk, ht, hp with
  | 0, _, _, h => exact absurd h (by decide)
  | 1, _, _, h => exact absurd h (by decide)
  | 2, _, h, _ => exact absurd h (by decide)
  | 3, _, h, _ => exact absurd h (by decide)
  | 4, _, h, _ => exact absurd h (by decide)
  | 5, _, h, _ => exact absurd h (by decide)
  | 6, _, _, h => exact absurd h (by decide)
  | 7, _, h, _ => exact absurd h (by decide)
  | 8, _, h, _ => exact absurd h (by decide)
  | 9, _, h, _ => exact absurd h (by decide)
  | 10, _, _, h => exact absurd h (by decide)
  | 11, _, _, h => exact absurd h (by decide)
  | 12, _, h, _ => exact absurd h (by decide)
  | 13, _, _, _ => simp only [prim8]
  | 14, _, h, _ => exact absurd h (by decide)
  | 15, _, h, _ => exact absurd h (by decide)
  | 16, _, _, _ => simp only [prim8]
  | 17, _, _, _ => simp only [prim8]
  | 18, _, h, _ => exact absurd h (by decide)
  | 19, _, _, _ => simp only [prim8]
  | 20, _, h, _ => exact absurd h (by decide)
  | 21, _, h, _ => exact absurd h (by decide)
  | 22, _, _, _ => simp only [prim8]
  | 23, _, h, _ => exact absurd h (by decide)
  | k + 24, h, _, _ => omega
theorem prim8_pure (k : Nat) (hk : k < 24) (hp : isPure k = true) (S : S8) (x y : Int) : prim8 k S x y = put8 S (takes8 k) (pure8 k x y) := by
  match k, hk, hp with
  | 0, _, _ => simp only [prim8]
  | 1, _, _ => simp only [prim8]
  | 2, _, _ => simp only [prim8]
  | 3, _, _ => simp only [prim8]
  | 4, _, _ => simp only [prim8]
  | 5, _, _ => simp only [prim8]
  | 6, _, _ => simp only [prim8]
  | 7, _, _ => simp only [prim8]
  | 8, _, _ => simp only [prim8]
  | 9, _, _ => simp only [prim8]
  | 10, _, _ => simp only [prim8]
  | 11, _, _ => simp only [prim8]
  | 12, _, h => exact absurd h (by decide)
  | 13, _, h => exact absurd h (by decide)
  | 14, _, h => exact absurd h (by decide)
  | 15, _, h => exact absurd h (by decide)
  | 16, _, h => exact absurd h (by decide)
  | 17, _, h => exact absurd h (by decide)
  | 18, _, h => exact absurd h (by decide)
  | 19, _, h => exact absurd h (by decide)
  | 20, _, h => exact absurd h (by decide)
  | 21, _, h => exact absurd h (by decide)
  | 22, _, h => exact absurd h (by decide)
  | 23, _, _ => simp only [prim8]
  | k + 24, h, _ => omega
theorem takes8_le (k : Nat) (hk : k < 24) : takes8 k = 0 ∨ takes8 k = 1 ∨ takes8 k = 2 := by
  match k, hk with
  | 0, _ => exact (by decide)
  | 1, _ => exact (by decide)
  | 2, _ => exact (by decide)
  | 3, _ => exact (by decide)
  | 4, _ => exact (by decide)
  | 5, _ => exact (by decide)
  | 6, _ => exact (by decide)
  | 7, _ => exact (by decide)
  | 8, _ => exact (by decide)
  | 9, _ => exact (by decide)
  | 10, _ => exact (by decide)
  | 11, _ => exact (by decide)
  | 12, _ => exact (by decide)
  | 13, _ => exact (by decide)
  | 14, _ => exact (by decide)
  | 15, _ => exact (by decide)
  | 16, _ => exact (by decide)
  | 17, _ => exact (by decide)
  | 18, _ => exact (by decide)
  | 19, _ => exact (by decide)
  | 20, _ => exact (by decide)
  | 21, _ => exact (by decide)
  | 22, _ => exact (by decide)
  | 23, _ => exact (by decide)
  | k + 24, h => omega
theorem spec_do (d r m c v o i : Value) (S : S8) (k : Int) (hs : totSt S ≤ 2500000) (hrg : Rng8 S) (w : World) (hr : RdSt w d r m c v o i S) : Calls Tryz.prog 11 #[.agg #[d, r, .int .i32 S.a, m, c, v, o, i, .int .i64 S.fault, .int .i64 S.fuel], .int .i64 k] w (NewSt w (do8 S k)) := by
  cases hk : ok8 S with
  | false =>
    rw [show do8 S k = zero8 by unfold do8; rw [if_neg (by rw [hk]; decide)]]
    exact sdo_no d r m c v o i S k hs w hr hk
  | true =>
    have hok := (ok8_iff S).1 hk
    by_cases hf : S.fault = 0
    · rw [show do8 S k = fin8 S (word8 S k) by unfold do8; rw [if_pos hk, if_pos hf]]
      by_cases hkk : 0 ≤ k ∧ k ≤ 23
      · obtain ⟨n, rfl⟩ : ∃ n : Nat, k = n := ⟨k.toNat, by omega⟩
        have hn : n < 24 := by omega
        by_cases hfw : takes8 n ≤ S.data.length
        · have e : word8 S (n : Int) = prim8 n S (top8 S 1) (top8 S 0) := by
            unfold word8
            rw [if_neg (by omega), Int.toNat_natCast, if_neg (by omega)]
          rw [e]
          obtain ⟨a0, a1⟩ := hrg.top 0
          obtain ⟨b0, b1⟩ := hrg.top 1
          cases hp : isPure n with
          | true =>
            rw [prim8_pure n hn hp]
            rcases takes8_le n hn with ht | ht | ht
            · rw [ht] at hfw ⊢
              exact sdo_pure0 d r m c v o i S n hn hs w hr hok hf ht hfw hp a0 a1
            · rw [ht] at hfw ⊢
              exact sdo_pure1 d r m c v o i S n hn hs w hr hok hf ht hfw hp a0 a1
            · rw [ht] at hfw ⊢
              exact sdo_pure2 d r m c v o i S n hn hs w hr hok hf ht hfw hp a0 a1
          | false =>
            rcases takes8_le n hn with ht | ht | ht
            · refine sdo_other0 d r m c v o i S n hn hs w hr hok hf ht (Nat.zero_le _) hp trivial fun x y hxy W hW => ?_
              obtain ⟨rfl, rfl⟩ := hxy
              rw [prim8_t0 n hn ht hp S (top8 S 1) (top8 S 0) 0 0]
              exact spec_other n hn hp d r m c v o i S 0 0 (by decide) (by decide) (by decide) (by decide) hok hf hrg.inp hfw hs W (hr.below hW)
            · refine sdo_other1 d r m c v o i S n hn hs w hr hok hf ht (by omega) hp trivial fun x y hxy W hW => ?_
              obtain ⟨rfl, rfl⟩ := hxy
              rw [prim8_t1 n hn ht hp S (top8 S 1) 0 (top8 S 0)]
              exact spec_other n hn hp d r m c v o i S 0 (top8 S 0) (by decide) (by decide) a0 a1 hok hf hrg.inp hfw hs W (hr.below hW)
            · refine sdo_other2 d r m c v o i S n hn hs w hr hok hf ht (by omega) hp trivial fun x y hxy W hW => ?_
              obtain ⟨rfl, rfl⟩ := hxy
              exact spec_other n hn hp d r m c v o i S (top8 S 1) (top8 S 0) b0 b1 a0 a1 hok hf hrg.inp hfw hs W (hr.below hW)
        · rw [show word8 S (n : Int) = .inl 2 by unfold word8; rw [if_neg (by omega), Int.toNat_natCast, if_pos (by omega)]]
          exact sdo_few d r m c v o i S n hn hs w hr hok hf (by omega)
      · rw [show word8 S k = .inl 1 by unfold word8; rw [if_pos (by omega)]]
        exact sdo_none d r m c v o i S k hkk hs w hr hok hf
    · rw [show do8 S k = S by unfold do8; rw [if_pos hk, if_neg hf]]
      exact sdo_fault d r m c v o i S k hs w hr hk hf
end Go.Proofs.YtdiaiflleiebfaaGreatDoor

namespace Go.Proofs.YtdiaiflleiebfaaGreatDoor
open Go.RowKit Go

/-- A state handed back, whose rows may lie in rows that were handed in. -/
def TriedEnd (w : World) (lo hi : Nat) (T : S8) (e : Ending) (w' : World) : Prop :=
  ∃ d r m c v o i, e = .returned (.agg #[d, r, .int .i32 T.a, m, c, v, o, i, .int .i64 T.fault, .int .i64 T.fuel]) ∧ OwnSt w' lo w'.heap.size d r m c v o i T ∧ Chg w w' (fun k => lo ≤ k ∧ k < hi)
theorem Chg.setNew {w w' : World} {P : Nat → Prop} (h : Chg w w' P) {p : Addr} (hp : w.heap.size ≤ p.block) (u : Value) : Chg w (w'.setCell p u) P :=
  ⟨h.os, h.tape, h.output, by simpa [World.setCell] using h.size, fun k hk hn => (Below.heap_setCell w' p u k (by rintro rfl; omega)).trans (h.block k hk hn)⟩
theorem Chg.putSt {w w' : World} {P : Nat → Prop} (h : Chg w w' P) {g : Nat} (hg : w.heap.size ≤ g) (x0 x1 x2 x3 x4 x5 x6 x7 x8 x9 : Value) : Chg w (putSt w' g x0 x1 x2 x3 x4 x5 x6 x7 x8 x9) P :=
  have k := putSt_only w' g x0 x1 x2 x3 x4 x5 x6 x7 x8 x9
  ⟨k.os.trans h.os, k.tape.trans h.tape, k.output.trans h.output, Nat.le_trans h.size k.size, fun j hj hn => (k.block j (Nat.lt_of_lt_of_le hj h.size) (fun e => by injection e with e; omega)).trans (h.block j hj hn)⟩
end Go.Proofs.YtdiaiflleiebfaaGreatDoor
