/-
  impl.tried over any closure.
  impl.Start.
  impl.Start, where there is a machine.
  spec.l12Put: a slot on Ret.
-/
import Derived.Test.YtmnfdbgiemappaaST9
import Derived.Deep.Cut
import Derived.Test.YtmnfdbgiemappaaST13
import Derived.Laws.StructEq
import Derived.Test.YtmnfdbgiemappaaST8
import Derived.Test.YtmnfdbgiemappaaST6
namespace Go.Proofs.Ytmnfdbgiemappaa
open Go.RowKit Go

/-- The end of a function that hands a state back: it lies in its box, stored last. -/
theorem tr_end {fn : Func} {a : Act} {w W : World} {g lo hi hh k : Nat} {y0 y1 y2 y3 y4 y5 y6 y7 y8 y9 d r m c v o i : Value} {S : S8} (hf : fn.results = #[ResultVar.cell k 34]) (ha : a.tmps[k]? = some (.pointer (some ⟨g, 0, none⟩))) (hd : a.defers = []) (hk : Blk W g 34 #[y0, y1, y2, y3, y4, y5, y6, y7, y8, y9]) (hc : Chg w W (fun k => lo ≤ k ∧ k < hi)) (ho : OwnSt W lo hh d r m c v o i S) (hg : w.heap.size ≤ g) (hhi : hh ≤ W.heap.size) :
    bodyPost Try.prog fn (TriedEnd w lo hi S) Exit.ret a (putSt W g d r (.int .i32 S.a) m c v o i (.int .i64 S.fault) (.int .i64 S.fuel)) := by
  have y1 := putSt_blk hk d r (.int .i32 S.a) m c v o i (.int .i64 S.fault) (.int .i64 S.fuel)
  have y2 := Chg.putSt hc hg d r (.int .i32 S.a) m c v o i (.int .i64 S.fault) (.int .i64 S.fuel)
  have y3 := OwnSt.atBox ho hk (putSt_only W g d r (.int .i32 S.a) m c v o i (.int .i64 S.fault) (.int .i64 S.fuel)) (by decide) (by decide) (by decide) (by decide) (by decide)
  have y4 := putSt_size W g d r (.int .i32 S.a) m c v o i (.int .i64 S.fault) (.int .i64 S.fuel)
  generalize putSt W g d r (.int .i32 S.a) m c v o i (.int .i64 S.fault) (.int .i64 S.fuel) = W' at y1 y2 y3 y4 ⊢
  obtain ⟨z0, z1, z2, z3, z4, z5, z6, z7, z8, z9⟩ := st_cells y1
  exact bodyPost_ret (v := .agg #[d, r, .int .i32 S.a, m, c, v, o, i, .int .i64 S.fault, .int .i64 S.fuel]) (by simp [results, hf, ha, z0, z1, z2, z3, z4, z5, z6, z7, z8, z9, go_sem]) hd ⟨_, _, _, _, _, _, _, rfl, y3.mono (Nat.le_refl _) (by omega), y2⟩
set_option maxRecDepth 100000 in
set_option maxHeartbeats 4000000 in
theorem tried_of_fault (fid : Nat) (caps : Array Value) (d r m c v o i : Value) (S : S8) (lo hi : Nat) (w : World) (ho : OwnSt w lo hi d r m c v o i S) (hs : totSt S ≤ 4000000) (hhi : hi ≤ w.heap.size) (hf : S.fault ≠ 0) : Calls Try.prog 34 #[.agg #[d, r, .int .i32 S.a, m, c, v, o, i, .int .i64 S.fault, .int .i64 S.fuel], .func (.func fid) #[] caps] w (TriedEnd w lo hi S) := by
  obtain ⟨⟨A0, a0, rfl⟩, ⟨A1, a1, rfl⟩, ⟨A2, a2, rfl⟩, ⟨A3, a3, rfl⟩, ⟨A4, a4, rfl⟩, ⟨A5, a5, rfl⟩, ⟨A6, a6, rfl⟩⟩ := ho.form hs
  obtain ⟨KP, KR, B0, HZ0⟩ := st_boxes w #[.slice A0 S.data.length a0, .slice A1 S.ret.length a1, .int .i32 S.a, .slice A2 S.mem.length a2, .slice A3 S.cells.length a3, .slice A4 S.vars.length a4, .slice A5 S.out.length a5, .slice A6 S.inp.length a6, .int .i64 S.fault, .int .i64 S.fuel]
  have HO := Lib.hid (ho.keep B0.out)
  generalize hX : ((w.alloc (.cells #[.slice A0 S.data.length a0, .slice A1 S.ret.length a1, .int .i32 S.a, .slice A2 S.mem.length a2, .slice A3 S.cells.length a3, .slice A4 S.vars.length a4, .slice A5 S.out.length a5, .slice A6 S.inp.length a6, .int .i64 S.fault, .int .i64 S.fuel] 34)).alloc (.cells #[.slice none 0 0, .slice none 0 0, .int .i32 0, .slice none 0 0, .slice none 0 0, .slice none 0 0, .slice none 0 0, .slice none 0 0, .int .i64 0, .int .i64 0] 34)) = X at KP KR B0 HZ0 HO
  have HX := Lib.hid hX
  have hfb : (S.fault != 0) = true := by simpa using hf
  have HH := Lib.hid hhi
  obtain ⟨p0, p1, p2, p3, p4, p5, p6, p7, p8, p9⟩ := st_cells KP.out
  obtain ⟨n0, n1, n2, n3, n4, n5, n6, n7, n8, n9⟩ := st_cells KR.out
  have lz1 : w.heap.size < X.heap.size := KP.out.lt
  have lz2 : w.heap.size + 1 < X.heap.size := KR.out.lt
  have fz1 := KR.out.frozen
  clear ho hs hhi hf KP hX
  go_enter Try.func34, Try.ntmps34
  go_upto_region 1 with (fail)
  rw [HX.out]
  go_wp2_with fail
  exact tr_end Try.results34 rfl rfl KR.out (.of_below B0.out) HO.out (by omega) (by have := HH.out; omega)
set_option maxRecDepth 100000 in
set_option maxHeartbeats 4000000 in
theorem tried_of_no (fid : Nat) (caps : Array Value) (hcf : ∀ args W, (callFunc fid args).run Try.prog W = .ok (.enter fid args) W) (d r m c v o i : Value) (S : S8) (lo hi : Nat) (w : World) (ho : OwnSt w lo hi d r m c v o i S) (hs : totSt S ≤ 4000000) (hhi : hi ≤ w.heap.size) (hf : S.fault = 0) (f : Int) (res : Int ⊕ S8) (hres : res = .inl f) (HF : ∀ (W : World) (g : Nat), Blk W g bench0.t (bench0.cs #[d, r, .int .i32 S.a, m, c, v, o, i, .int .i64 S.fault, .int .i64 S.fuel]) → OwnSt W lo hi d r m c v o i S → hi ≤ W.heap.size → Below w.heap.size w W → w.heap.size ≤ g → Calls Try.prog fid (#[.pointer (some ⟨g, 0, none⟩)] ++ caps) W (BenchEnd bench0 W g lo hi d r m c v o i S res)) : Calls Try.prog 34 #[.agg #[d, r, .int .i32 S.a, m, c, v, o, i, .int .i64 S.fault, .int .i64 S.fuel], .func (.func fid) #[] caps] w (TriedEnd w lo hi { S with fault := f }) := by
  obtain ⟨⟨A0, a0, rfl⟩, ⟨A1, a1, rfl⟩, ⟨A2, a2, rfl⟩, ⟨A3, a3, rfl⟩, ⟨A4, a4, rfl⟩, ⟨A5, a5, rfl⟩, ⟨A6, a6, rfl⟩⟩ := ho.form hs
  obtain ⟨KP, KR, B0, HZ0⟩ := st_boxes w #[.slice A0 S.data.length a0, .slice A1 S.ret.length a1, .int .i32 S.a, .slice A2 S.mem.length a2, .slice A3 S.cells.length a3, .slice A4 S.vars.length a4, .slice A5 S.out.length a5, .slice A6 S.inp.length a6, .int .i64 S.fault, .int .i64 S.fuel]
  have HO := Lib.hid (ho.keep B0.out)
  generalize hX : ((w.alloc (.cells #[.slice A0 S.data.length a0, .slice A1 S.ret.length a1, .int .i32 S.a, .slice A2 S.mem.length a2, .slice A3 S.cells.length a3, .slice A4 S.vars.length a4, .slice A5 S.out.length a5, .slice A6 S.inp.length a6, .int .i64 S.fault, .int .i64 S.fuel] 34)).alloc (.cells #[.slice none 0 0, .slice none 0 0, .int .i32 0, .slice none 0 0, .slice none 0 0, .slice none 0 0, .slice none 0 0, .slice none 0 0, .int .i64 0, .int .i64 0] 34)) = X at KP KR B0 HZ0 HO
  have HX := Lib.hid hX
  have hfb : (S.fault != 0) = false := by simpa using hf
  have HH := Lib.hid hhi
  have HFX := Lib.hid HF
  subst hres
  obtain ⟨p0, p1, p2, p3, p4, p5, p6, p7, p8, p9⟩ := st_cells KP.out
  have lz1 : w.heap.size < X.heap.size := KP.out.lt
  clear ho hs hhi hf hX HF
  go_enter Try.func34, Try.ntmps34
  go_upto_region 1 with (fail)
  rw [HX.out]
  go_upto_region 4 with (fail)
  have KG := Blk.new X 68 #[.slice A0 S.data.length a0, .slice A1 S.ret.length a1, .int .i32 S.a, .slice A2 S.mem.length a2, .slice A3 S.cells.length a3, .slice A4 S.vars.length a4, .slice A5 S.out.length a5, .slice A6 S.inp.length a6, .int .i64 S.fault, .int .i64 S.fuel]
  have kp := KP.out.alloc (.cells #[.slice A0 S.data.length a0, .slice A1 S.ret.length a1, .int .i32 S.a, .slice A2 S.mem.length a2, .slice A3 S.cells.length a3, .slice A4 S.vars.length a4, .slice A5 S.out.length a5, .slice A6 S.inp.length a6, .int .i64 S.fault, .int .i64 S.fuel] 68)
  have kr := KR.out.alloc (.cells #[.slice A0 S.data.length a0, .slice A1 S.ret.length a1, .int .i32 S.a, .slice A2 S.mem.length a2, .slice A3 S.cells.length a3, .slice A4 S.vars.length a4, .slice A5 S.out.length a5, .slice A6 S.inp.length a6, .int .i64 S.fault, .int .i64 S.fuel] 68)
  have ho := HO.out.alloc (.cells #[.slice A0 S.data.length a0, .slice A1 S.ret.length a1, .int .i32 S.a, .slice A2 S.mem.length a2, .slice A3 S.cells.length a3, .slice A4 S.vars.length a4, .slice A5 S.out.length a5, .slice A6 S.inp.length a6, .int .i64 S.fault, .int .i64 S.fuel] 68)
  have hb := B0.out.alloc B0.out.size (.cells #[.slice A0 S.data.length a0, .slice A1 S.ret.length a1, .int .i32 S.a, .slice A2 S.mem.length a2, .slice A3 S.cells.length a3, .slice A4 S.vars.length a4, .slice A5 S.out.length a5, .slice A6 S.inp.length a6, .int .i64 S.fault, .int .i64 S.fuel] 68)
  have hzy : (X.alloc (.cells #[.slice A0 S.data.length a0, .slice A1 S.ret.length a1, .int .i32 S.a, .slice A2 S.mem.length a2, .slice A3 S.cells.length a3, .slice A4 S.vars.length a4, .slice A5 S.out.length a5, .slice A6 S.inp.length a6, .int .i64 S.fault, .int .i64 S.fuel] 68)).heap.size = X.heap.size + 1 := by simp
  clear p0 p1 p2 p3 p4 p5 p6 p7 p8 p9
  generalize X.alloc (.cells #[.slice A0 S.data.length a0, .slice A1 S.ret.length a1, .int .i32 S.a, .slice A2 S.mem.length a2, .slice A3 S.cells.length a3, .slice A4 S.vars.length a4, .slice A5 S.out.length a5, .slice A6 S.inp.length a6, .int .i64 S.fault, .int .i64 S.fuel] 68) = Y at KG kp kr ho hb hzy ⊢
  have KP1 := Lib.hid kp
  have KR1 := Lib.hid kr
  have HO1 := Lib.hid ho
  have HB1 := Lib.hid hb
  have hzx := HZ0.out
  have hhx := HH.out
  rw [hzx] at KG
  have HCALL := Lib.hid (HFX.out Y (w.heap.size + 2) (bz0.2 KG) ho (by omega) hb (by omega))
  have HCF := Lib.hid hcf
  clear hcf KG kp kr ho hb KP KR HO B0 HZ0 HFX
  go_wp2_with fail
  rw [HCF.out, Oper.upon_enter]
  refine HCALL.out.mono ?_
  clear HCALL HCF
  rintro e w1 ⟨hch, rfl, hfn, ho1⟩
  have hfb1 : (f != 0) = true := by simpa using hfn
  have HC1 : Hid (Chg w w1 (fun k => lo ≤ k ∧ k < hi)) := Lib.hid ⟨hch.os.trans HB1.out.os, hch.tape.trans HB1.out.tape, hch.output.trans HB1.out.output, Nat.le_trans HB1.out.size hch.size, fun k hk hn => (hch.block k (Nat.lt_of_lt_of_le hk HB1.out.size) (by rintro (h | h); (have := HB1.out.size; omega); exact hn h)).trans (HB1.out.block k hk)⟩
  have hh := HH.out
  have kp1 := hch.blk KP1.out (g := w.heap.size) (by omega)
  have kr1 := hch.blk KR1.out (g := w.heap.size + 1) (by omega)
  have HO2 := Lib.hid ho1
  have KP2 := Lib.hid kp1
  have KR2 := Lib.hid kr1
  have sz1 := hch.size
  obtain ⟨p0, p1, p2, p3, p4, p5, p6, p7, p8, p9⟩ := st_cells kp1
  have fp := kp1.frozen
  clear hch kp1 kr1 ho1 hfn KP1 KR1 HB1 HO1
  go_upto_region 7 with (fail)
  have kp := KP2.out.put 8 (.int .i64 f)
  have kr := KR2.out.far (p := ⟨w.heap.size, 8, none⟩) (by simp) (.int .i64 f)
  have ho := (HO2.out.atBox KP2.out (only_setCell (World.grownBy.refl _ _) (p := ⟨w.heap.size, 8, none⟩) (.inl rfl) (.int .i64 f)) (by decide) (by decide) (by decide) (by decide) (by decide)).scal S.a f S.fuel
  have hc := Chg.setNew HC1.out (p := ⟨w.heap.size, 8, none⟩) (Nat.le_refl _) (.int .i64 f)
  have hz : (w1.setCell ⟨w.heap.size, 8, none⟩ (.int .i64 f)).heap.size = w1.heap.size := by simp [World.setCell]
  clear p0 p1 p2 p3 p4 p5 p6 p7 p8 p9 fp
  generalize w1.setCell ⟨w.heap.size, 8, none⟩ (.int .i64 f) = wz at kr kp ho hc hz ⊢
  obtain ⟨m0, m1, m2, m3, m4, m5, m6, m7, m8, m9⟩ := st_cells kp
  obtain ⟨n0, n1, n2, n3, n4, n5, n6, n7, n8, n9⟩ := st_cells kr
  have fz1 := kr.frozen
  have lz1 : w.heap.size < wz.heap.size := kp.lt
  have lz2 : w.heap.size + 1 < wz.heap.size := kr.lt
  have HZ := Lib.hid hz
  have KRZ := Lib.hid kr
  have OZ := Lib.hid ho
  have CZ := Lib.hid hc
  clear kr kp ho hc hz KP2 KR2 HO2 HC1
  go_wp2_with fail
  exact tr_end (S := { S with fault := f }) Try.results34 rfl rfl KRZ.out CZ.out OZ.out (by omega) (by omega)
set_option maxRecDepth 100000 in
set_option maxHeartbeats 4000000 in
theorem tried_of_yes (fid : Nat) (caps : Array Value) (hcf : ∀ args W, (callFunc fid args).run Try.prog W = .ok (.enter fid args) W) (d r m c v o i : Value) (S : S8) (lo hi : Nat) (w : World) (ho : OwnSt w lo hi d r m c v o i S) (hs : totSt S ≤ 4000000) (hhi : hi ≤ w.heap.size) (hf : S.fault = 0) (T : S8) (ht : totSt T ≤ 4000000) (res : Int ⊕ S8) (hres : res = .inr T) (HF : ∀ (W : World) (g : Nat), Blk W g bench0.t (bench0.cs #[d, r, .int .i32 S.a, m, c, v, o, i, .int .i64 S.fault, .int .i64 S.fuel]) → OwnSt W lo hi d r m c v o i S → hi ≤ W.heap.size → Below w.heap.size w W → w.heap.size ≤ g → Calls Try.prog fid (#[.pointer (some ⟨g, 0, none⟩)] ++ caps) W (BenchEnd bench0 W g lo hi d r m c v o i S res)) : Calls Try.prog 34 #[.agg #[d, r, .int .i32 S.a, m, c, v, o, i, .int .i64 S.fault, .int .i64 S.fuel], .func (.func fid) #[] caps] w (TriedEnd w lo hi T) := by
  obtain ⟨⟨A0, a0, rfl⟩, ⟨A1, a1, rfl⟩, ⟨A2, a2, rfl⟩, ⟨A3, a3, rfl⟩, ⟨A4, a4, rfl⟩, ⟨A5, a5, rfl⟩, ⟨A6, a6, rfl⟩⟩ := ho.form hs
  obtain ⟨KP, KR, B0, HZ0⟩ := st_boxes w #[.slice A0 S.data.length a0, .slice A1 S.ret.length a1, .int .i32 S.a, .slice A2 S.mem.length a2, .slice A3 S.cells.length a3, .slice A4 S.vars.length a4, .slice A5 S.out.length a5, .slice A6 S.inp.length a6, .int .i64 S.fault, .int .i64 S.fuel]
  have HO := Lib.hid (ho.keep B0.out)
  generalize hX : ((w.alloc (.cells #[.slice A0 S.data.length a0, .slice A1 S.ret.length a1, .int .i32 S.a, .slice A2 S.mem.length a2, .slice A3 S.cells.length a3, .slice A4 S.vars.length a4, .slice A5 S.out.length a5, .slice A6 S.inp.length a6, .int .i64 S.fault, .int .i64 S.fuel] 34)).alloc (.cells #[.slice none 0 0, .slice none 0 0, .int .i32 0, .slice none 0 0, .slice none 0 0, .slice none 0 0, .slice none 0 0, .slice none 0 0, .int .i64 0, .int .i64 0] 34)) = X at KP KR B0 HZ0 HO
  have HX := Lib.hid hX
  have hfb : (S.fault != 0) = false := by simpa using hf
  have HH := Lib.hid hhi
  have HT := Lib.hid ht
  have HFX := Lib.hid HF
  subst hres
  obtain ⟨p0, p1, p2, p3, p4, p5, p6, p7, p8, p9⟩ := st_cells KP.out
  have lz1 : w.heap.size < X.heap.size := KP.out.lt
  clear ho hs hhi hf hX HF ht
  go_enter Try.func34, Try.ntmps34
  go_upto_region 1 with (fail)
  rw [HX.out]
  go_upto_region 4 with (fail)
  have KG := Blk.new X 68 #[.slice A0 S.data.length a0, .slice A1 S.ret.length a1, .int .i32 S.a, .slice A2 S.mem.length a2, .slice A3 S.cells.length a3, .slice A4 S.vars.length a4, .slice A5 S.out.length a5, .slice A6 S.inp.length a6, .int .i64 S.fault, .int .i64 S.fuel]
  have kp := KP.out.alloc (.cells #[.slice A0 S.data.length a0, .slice A1 S.ret.length a1, .int .i32 S.a, .slice A2 S.mem.length a2, .slice A3 S.cells.length a3, .slice A4 S.vars.length a4, .slice A5 S.out.length a5, .slice A6 S.inp.length a6, .int .i64 S.fault, .int .i64 S.fuel] 68)
  have kr := KR.out.alloc (.cells #[.slice A0 S.data.length a0, .slice A1 S.ret.length a1, .int .i32 S.a, .slice A2 S.mem.length a2, .slice A3 S.cells.length a3, .slice A4 S.vars.length a4, .slice A5 S.out.length a5, .slice A6 S.inp.length a6, .int .i64 S.fault, .int .i64 S.fuel] 68)
  have ho := HO.out.alloc (.cells #[.slice A0 S.data.length a0, .slice A1 S.ret.length a1, .int .i32 S.a, .slice A2 S.mem.length a2, .slice A3 S.cells.length a3, .slice A4 S.vars.length a4, .slice A5 S.out.length a5, .slice A6 S.inp.length a6, .int .i64 S.fault, .int .i64 S.fuel] 68)
  have hb := B0.out.alloc B0.out.size (.cells #[.slice A0 S.data.length a0, .slice A1 S.ret.length a1, .int .i32 S.a, .slice A2 S.mem.length a2, .slice A3 S.cells.length a3, .slice A4 S.vars.length a4, .slice A5 S.out.length a5, .slice A6 S.inp.length a6, .int .i64 S.fault, .int .i64 S.fuel] 68)
  have hzy : (X.alloc (.cells #[.slice A0 S.data.length a0, .slice A1 S.ret.length a1, .int .i32 S.a, .slice A2 S.mem.length a2, .slice A3 S.cells.length a3, .slice A4 S.vars.length a4, .slice A5 S.out.length a5, .slice A6 S.inp.length a6, .int .i64 S.fault, .int .i64 S.fuel] 68)).heap.size = X.heap.size + 1 := by simp
  clear p0 p1 p2 p3 p4 p5 p6 p7 p8 p9
  generalize X.alloc (.cells #[.slice A0 S.data.length a0, .slice A1 S.ret.length a1, .int .i32 S.a, .slice A2 S.mem.length a2, .slice A3 S.cells.length a3, .slice A4 S.vars.length a4, .slice A5 S.out.length a5, .slice A6 S.inp.length a6, .int .i64 S.fault, .int .i64 S.fuel] 68) = Y at KG kp kr ho hb hzy ⊢
  have KP1 := Lib.hid kp
  have KR1 := Lib.hid kr
  have HO1 := Lib.hid ho
  have HB1 := Lib.hid hb
  have hzx := HZ0.out
  have hhx := HH.out
  rw [hzx] at KG
  have HCALL := Lib.hid (HFX.out Y (w.heap.size + 2) (bz0.2 KG) ho (by omega) hb (by omega))
  have HCF := Lib.hid hcf
  clear hcf KG kp kr ho hb KP KR HO B0 HZ0 HFX
  go_wp2_with fail
  rw [HCF.out, Oper.upon_enter]
  refine HCALL.out.mono ?_
  clear HCALL HCF
  rintro e w1 ⟨hch, rfl, d1, r1, m1, c1, v1, o1, i1, kg1, ho1⟩
  replace kg1 := bz0.1 kg1
  have HC1 : Hid (Chg w w1 (fun k => lo ≤ k ∧ k < hi)) := Lib.hid ⟨hch.os.trans HB1.out.os, hch.tape.trans HB1.out.tape, hch.output.trans HB1.out.output, Nat.le_trans HB1.out.size hch.size, fun k hk hn => (hch.block k (Nat.lt_of_lt_of_le hk HB1.out.size) (by rintro (h | h); (have := HB1.out.size; omega); exact hn h)).trans (HB1.out.block k hk)⟩
  have hh := HH.out
  have kr1 := hch.blk KR1.out (g := w.heap.size + 1) (by omega)
  obtain ⟨⟨C0, c0, rfl⟩, ⟨C1, c1, rfl⟩, ⟨C2, c2, rfl⟩, ⟨C3, c3, rfl⟩, ⟨C4, c4, rfl⟩, ⟨C5, c5, rfl⟩, ⟨C6, c6, rfl⟩⟩ := ho1.form HT.out
  have hz0 : ((0 : Int) != 0) = false := by decide
  have KR2 := Lib.hid kr1
  have HO2 := Lib.hid ho1
  have sz1 := hch.size
  obtain ⟨p0, p1, p2, p3, p4, p5, p6, p7, p8, p9⟩ := st_cells kg1
  obtain ⟨n0, n1, n2, n3, n4, n5, n6, n7, n8, n9⟩ := st_cells kr1
  have fz1 := kr1.frozen
  have lz3 : w.heap.size + 2 < w1.heap.size := kg1.lt
  have lz2 : w.heap.size + 1 < w1.heap.size := kr1.lt
  clear hch kr1 ho1 kg1 KP1 KR1 HB1 HO1
  go_wp2_with fail
  exact tr_end (S := T) Try.results34 rfl rfl KR2.out HC1.out HO2.out (by omega) (Nat.le_refl _)
theorem tried_of (fid : Nat) (caps : Array Value) (hcf : ∀ args W, (callFunc fid args).run Try.prog W = .ok (.enter fid args) W) (d r m c v o i : Value) (S : S8) (lo hi : Nat) (w : World) (ho : OwnSt w lo hi d r m c v o i S) (hs : totSt S ≤ 4000000) (hhi : hi ≤ w.heap.size) (hf : S.fault = 0) (res : Int ⊕ S8) (hrs : totSt (fin8 S res) ≤ 4000000) (HF : ∀ (W : World) (g : Nat), Blk W g bench0.t (bench0.cs #[d, r, .int .i32 S.a, m, c, v, o, i, .int .i64 S.fault, .int .i64 S.fuel]) → OwnSt W lo hi d r m c v o i S → hi ≤ W.heap.size → Below w.heap.size w W → w.heap.size ≤ g → Calls Try.prog fid (#[.pointer (some ⟨g, 0, none⟩)] ++ caps) W (BenchEnd bench0 W g lo hi d r m c v o i S res)) : Calls Try.prog 34 #[.agg #[d, r, .int .i32 S.a, m, c, v, o, i, .int .i64 S.fault, .int .i64 S.fuel], .func (.func fid) #[] caps] w (TriedEnd w lo hi (fin8 S res)) := by
  cases hres : res with
  | inl f => exact tried_of_no fid caps hcf d r m c v o i S lo hi w ho hs hhi hf f res hres HF
  | inr T => exact tried_of_yes fid caps hcf d r m c v o i S lo hi w ho hs hhi hf T (by rw [hres] at hrs; exact hrs) res hres HF
end Go.Proofs.Ytmnfdbgiemappaa

namespace Go.Proofs.Ytmnfdbgiemappaa
open Go.RowKit Go

set_option maxRecDepth 100000 in
set_option maxHeartbeats 4000000 in
theorem start_one (d r m c v o i : Value) (S : S8) (g lo hi : Nat) (w : World) (h24 : S.ret.length ≤ 24) (hhi : hi ≤ w.heap.size) (hlo : lo ≤ hi) (ho : OwnSt w lo hi d r m c v o i S) (hB : Blk w g bench0.t (bench0.cs #[d, r, .int .i32 S.a, m, c, v, o, i, .int .i64 S.fault, .int .i64 S.fuel])) :
    Calls Try.prog 35 (#[.pointer (some ⟨g, 0, none⟩)] ++ #[]) w (BenchEnd bench0 w g lo hi d r m c v o i S (putR8 S 2 (-1))) := by
  have HP := Lib.hid (putslot_end d r m c v o i S 2 (-1) g lo hi w h24 hhi hlo ho hB)
  clear ho hB hhi hlo h24
  show Calls Try.prog 35 #[.pointer (some ⟨g, 0, none⟩)] w _
  go_enter Try.func35, Try.ntmps35
  go_wp2_with fail
  refine HP.out.mono ?_
  intro e w1 hE
  obtain ⟨u, rfl⟩ := hE.ret
  have HE := Lib.hid hE
  clear hE HP
  go_wp2_with fail
  go_ret
  exact HE.out
theorem putR8_tot {S : S8} {k n : Int} (hs : totSt S ≤ 2500000) : totSt (fin8 S (putR8 S k n)) ≤ 4000000 := by
  unfold putR8
  split
  · show totSt { S with fault := 3 } ≤ _
    unfold totSt at hs ⊢
    exact Nat.le_trans hs (by omega)
  · show totSt { S with ret := S.ret ++ [(k, n)] } ≤ _
    unfold totSt at hs ⊢
    simp only [List.length_append, List.length_singleton]
    omega
theorem can_iff {code : List (Int × Int)} {p : Int} {S : S8} : (codeOk code = true ∧ inCode code.length p = true ∧ ok8 S = true) ↔ canBe code p S = true := by
  rw [canBe_iff]
  unfold inCode
  rw [decide_eq_true_eq]
set_option maxRecDepth 100000 in
set_option maxHeartbeats 4000000 in
theorem istart_no (code : List (Int × Int)) (hrg : RngC code) (C : Option Addr) (cc : Nat) (p : Int) (d r m c v o i : Value) (S : S8) (hs : totSt S ≤ 2500000) (w : World) (hc : RdIc w (.slice C code.length cc) code) (hr : RdSt w d r m c v o i S) (hx : ¬ (codeOk code = true ∧ inCode code.length p = true ∧ ok8 S = true)) : Calls Try.prog 9 #[.slice C code.length cc, .int .i64 p, .agg #[d, r, .int .i32 S.a, m, c, v, o, i, .int .i64 S.fault, .int .i64 S.fuel]] w (NewMach w (zero8, 0, false)) := by
  have HN := Lib.hid (fun W (h : Below w.heap.size w W) => walkerof_no code hrg C cc p false _ _ _ _ _ _ _ S hs W (hc.below h) (hr.below h) hx)
  obtain ⟨⟨A0, a0, rfl⟩, ⟨A1, a1, rfl⟩, ⟨A2, a2, rfl⟩, ⟨A3, a3, rfl⟩, ⟨A4, a4, rfl⟩, ⟨A5, a5, rfl⟩, ⟨A6, a6, rfl⟩⟩ := hr.form
  obtain ⟨KP, KR, B0, HZ0⟩ := stm_boxes w #[.slice A0 S.data.length a0, .slice A1 S.ret.length a1, .int .i32 S.a, .slice A2 S.mem.length a2, .slice A3 S.cells.length a3, .slice A4 S.vars.length a4, .slice A5 S.out.length a5, .slice A6 S.inp.length a6, .int .i64 S.fault, .int .i64 S.fuel]
  generalize hX : ((w.alloc (.cells #[.slice A0 S.data.length a0, .slice A1 S.ret.length a1, .int .i32 S.a, .slice A2 S.mem.length a2, .slice A3 S.cells.length a3, .slice A4 S.vars.length a4, .slice A5 S.out.length a5, .slice A6 S.inp.length a6, .int .i64 S.fault, .int .i64 S.fuel] 34)).alloc (.cells #[.slice none 0 0, .slice none 0 0, .int .i32 0, .slice none 0 0, .slice none 0 0, .slice none 0 0, .slice none 0 0, .slice none 0 0, .int .i64 0, .int .i64 0, .int .i64 0, .bool false] 36)) = X at KP KR B0 HZ0
  have HX := Lib.hid hX
  obtain ⟨p0, p1, p2, p3, p4, p5, p6, p7, p8, p9⟩ := st_cells KP.out
  have lz1 : w.heap.size < X.heap.size := KP.out.lt
  clear hc hr hs hx hX hrg
  go_enter Try.func9, Try.ntmps9
  go_upto_region 1 with (fail)
  rw [HX.out]
  go_wp2_with fail
  refine (HN.out _ B0.out).mono ?_
  rintro e w1 ⟨rfl, hb1⟩
  have sz1 := hb1.size
  have hz := HZ0.out
  have KR1 := Lib.hid (KR.out.below hb1 KR.out.lt)
  have HB1 := Lib.hid (B0.out.trans (hb1.mono B0.out.size))
  clear hb1 KP KR B0 HN p0 p1 p2 p3 p4 p5 p6 p7 p8 p9
  go_upto_region 2 with (fail)
  have kr := KR1.out.alloc (.cells #[.slice none 0 0, .slice none 0 0, .int .i32 0, .slice none 0 0, .slice none 0 0, .slice none 0 0, .slice none 0 0, .slice none 0 0, .int .i64 0, .int .i64 0, .slice none 0 0, .int .i64 0, .bool false] 70)
  have hb := HB1.out.alloc HB1.out.size (.cells #[.slice none 0 0, .slice none 0 0, .int .i32 0, .slice none 0 0, .slice none 0 0, .slice none 0 0, .slice none 0 0, .slice none 0 0, .int .i64 0, .int .i64 0, .slice none 0 0, .int .i64 0, .bool false] 70)
  have hsz : w1.heap.size ≤ (w1.alloc (.cells #[.slice none 0 0, .slice none 0 0, .int .i32 0, .slice none 0 0, .slice none 0 0, .slice none 0 0, .slice none 0 0, .slice none 0 0, .int .i64 0, .int .i64 0, .slice none 0 0, .int .i64 0, .bool false] 70)).heap.size := by simp
  generalize w1.alloc (.cells #[.slice none 0 0, .slice none 0 0, .int .i32 0, .slice none 0 0, .slice none 0 0, .slice none 0 0, .slice none 0 0, .slice none 0 0, .int .i64 0, .int .i64 0, .slice none 0 0, .int .i64 0, .bool false] 70) = Y at kr hb hsz ⊢
  obtain ⟨n0, n1, n2, n3, n4, n5, n6, n7, n8, n9, n10, n11⟩ := mach_cells kr
  have fz := kr.frozen
  have lz2 : w.heap.size + 1 < Y.heap.size := kr.lt
  have KRZ := Lib.hid kr
  have BZ_ := Lib.hid hb
  clear kr hb KR1 HB1
  go_wp2_with fail
  exact m_end (S := zero8) (lo := Y.heap.size) (hi := Y.heap.size) (p := 0) (dn := false) Try.results9 rfl rfl KRZ.out BZ_.out own_nil (by omega) (by omega) (.inl lz2) (Nat.le_refl _)
end Go.Proofs.Ytmnfdbgiemappaa

namespace Go.Proofs.Ytmnfdbgiemappaa
open Go.RowKit Go

set_option maxRecDepth 100000 in
set_option maxHeartbeats 4000000 in
theorem istart_fault (code : List (Int × Int)) (hrg : RngC code) (C : Option Addr) (cc : Nat) (p : Int) (d r m c v o i : Value) (S : S8) (hs : totSt S ≤ 2500000) (w : World) (hc : RdIc w (.slice C code.length cc) code) (hr : RdSt w d r m c v o i S) (hx : codeOk code = true ∧ inCode code.length p = true ∧ ok8 S = true) (hf : S.fault ≠ 0) : Calls Try.prog 9 #[.slice C code.length cc, .int .i64 p, .agg #[d, r, .int .i32 S.a, m, c, v, o, i, .int .i64 S.fault, .int .i64 S.fuel]] w (NewMach w (zero8, 0, false)) := by
  have HN := Lib.hid (fun W (h : Below w.heap.size w W) => walkerof_yes code hrg C cc p false _ _ _ _ _ _ _ S hs W (hc.below h) (hr.below h) hx.1 hx.2.1 hx.2.2)
  have HTS : Hid (totSt S ≤ 4000000) := Lib.hid (by omega)
  obtain ⟨⟨A0, a0, rfl⟩, ⟨A1, a1, rfl⟩, ⟨A2, a2, rfl⟩, ⟨A3, a3, rfl⟩, ⟨A4, a4, rfl⟩, ⟨A5, a5, rfl⟩, ⟨A6, a6, rfl⟩⟩ := hr.form
  obtain ⟨KP, KR, B0, HZ0⟩ := stm_boxes w #[.slice A0 S.data.length a0, .slice A1 S.ret.length a1, .int .i32 S.a, .slice A2 S.mem.length a2, .slice A3 S.cells.length a3, .slice A4 S.vars.length a4, .slice A5 S.out.length a5, .slice A6 S.inp.length a6, .int .i64 S.fault, .int .i64 S.fuel]
  generalize hX : ((w.alloc (.cells #[.slice A0 S.data.length a0, .slice A1 S.ret.length a1, .int .i32 S.a, .slice A2 S.mem.length a2, .slice A3 S.cells.length a3, .slice A4 S.vars.length a4, .slice A5 S.out.length a5, .slice A6 S.inp.length a6, .int .i64 S.fault, .int .i64 S.fuel] 34)).alloc (.cells #[.slice none 0 0, .slice none 0 0, .int .i32 0, .slice none 0 0, .slice none 0 0, .slice none 0 0, .slice none 0 0, .slice none 0 0, .int .i64 0, .int .i64 0, .int .i64 0, .bool false] 36)) = X at KP KR B0 HZ0
  have HX := Lib.hid hX
  obtain ⟨p0, p1, p2, p3, p4, p5, p6, p7, p8, p9⟩ := st_cells KP.out
  have lz1 : w.heap.size < X.heap.size := KP.out.lt
  have hfb : (S.fault == 0) = false := by simpa using hf
  clear hc hr hs hx hX hrg hf
  go_enter Try.func9, Try.ntmps9
  go_upto_region 1 with (fail)
  rw [HX.out]
  go_wp2_with fail
  refine (HN.out _ B0.out).mono ?_
  rintro e w1 ⟨q0, q1, q2, q3, q4, q5, q6, rfl, ho1, hb1⟩
  obtain ⟨⟨E0, e0, rfl⟩, ⟨E1, e1, rfl⟩, ⟨E2, e2, rfl⟩, ⟨E3, e3, rfl⟩, ⟨E4, e4, rfl⟩, ⟨E5, e5, rfl⟩, ⟨E6, e6, rfl⟩⟩ := ho1.form HTS.out
  have sz1 := hb1.size
  have hz := HZ0.out
  have HO1 := Lib.hid ho1
  have KP1 := Lib.hid (KP.out.below hb1 KP.out.lt)
  have KR1 := Lib.hid (KR.out.below hb1 KR.out.lt)
  have HB1 := Lib.hid (B0.out.trans (hb1.mono B0.out.size))
  clear hb1 ho1 KP KR B0 HN p0 p1 p2 p3 p4 p5 p6 p7 p8 p9
  go_upto_region 2 with (fail)
  have kg := Blk.new w1 70 #[.slice E0 S.data.length e0, .slice E1 S.ret.length e1, .int .i32 S.a, .slice E2 S.mem.length e2, .slice E3 S.cells.length e3, .slice E4 S.vars.length e4, .slice E5 S.out.length e5, .slice E6 S.inp.length e6, .int .i64 S.fault, .int .i64 S.fuel, .slice C code.length cc, .int .i64 p, .bool false]
  have kp := KP1.out.alloc (.cells #[.slice E0 S.data.length e0, .slice E1 S.ret.length e1, .int .i32 S.a, .slice E2 S.mem.length e2, .slice E3 S.cells.length e3, .slice E4 S.vars.length e4, .slice E5 S.out.length e5, .slice E6 S.inp.length e6, .int .i64 S.fault, .int .i64 S.fuel, .slice C code.length cc, .int .i64 p, .bool false] 70)
  have kr := KR1.out.alloc (.cells #[.slice E0 S.data.length e0, .slice E1 S.ret.length e1, .int .i32 S.a, .slice E2 S.mem.length e2, .slice E3 S.cells.length e3, .slice E4 S.vars.length e4, .slice E5 S.out.length e5, .slice E6 S.inp.length e6, .int .i64 S.fault, .int .i64 S.fuel, .slice C code.length cc, .int .i64 p, .bool false] 70)
  have ho := HO1.out.alloc (.cells #[.slice E0 S.data.length e0, .slice E1 S.ret.length e1, .int .i32 S.a, .slice E2 S.mem.length e2, .slice E3 S.cells.length e3, .slice E4 S.vars.length e4, .slice E5 S.out.length e5, .slice E6 S.inp.length e6, .int .i64 S.fault, .int .i64 S.fuel, .slice C code.length cc, .int .i64 p, .bool false] 70)
  have hb := HB1.out.alloc HB1.out.size (.cells #[.slice E0 S.data.length e0, .slice E1 S.ret.length e1, .int .i32 S.a, .slice E2 S.mem.length e2, .slice E3 S.cells.length e3, .slice E4 S.vars.length e4, .slice E5 S.out.length e5, .slice E6 S.inp.length e6, .int .i64 S.fault, .int .i64 S.fuel, .slice C code.length cc, .int .i64 p, .bool false] 70)
  have hsz : (w1.alloc (.cells #[.slice E0 S.data.length e0, .slice E1 S.ret.length e1, .int .i32 S.a, .slice E2 S.mem.length e2, .slice E3 S.cells.length e3, .slice E4 S.vars.length e4, .slice E5 S.out.length e5, .slice E6 S.inp.length e6, .int .i64 S.fault, .int .i64 S.fuel, .slice C code.length cc, .int .i64 p, .bool false] 70)).heap.size = w1.heap.size + 1 := by simp
  generalize w1.alloc (.cells #[.slice E0 S.data.length e0, .slice E1 S.ret.length e1, .int .i32 S.a, .slice E2 S.mem.length e2, .slice E3 S.cells.length e3, .slice E4 S.vars.length e4, .slice E5 S.out.length e5, .slice E6 S.inp.length e6, .int .i64 S.fault, .int .i64 S.fuel, .slice C code.length cc, .int .i64 p, .bool false] 70) = Y at kg kp kr ho hb hsz ⊢
  have HH := Lib.hid (halt_any w1.heap.size p S.fault false _ _ _ _ _ _ _ _ _ _ Y kg)
  have KGZ := Lib.hid kg
  have KPZ := Lib.hid kp
  have KRZ := Lib.hid kr
  have OZ := Lib.hid ho
  have BZ_ := Lib.hid hb
  clear kg kp kr ho hb KP1 KR1 HB1 HO1
  go_wp2_with fail
  refine HH.out.mono ?_
  rintro e w2 ⟨rfl, hb2⟩
  have sz2 := hb2.size
  have kg2 := KGZ.out.below hb2 KGZ.out.lt
  have kp2 := KPZ.out.below hb2 KPZ.out.lt
  have kr2 := KRZ.out.below hb2 KRZ.out.lt
  have ho2 := OZ.out.keep hb2
  have HB2 := Lib.hid (BZ_.out.trans (hb2.mono BZ_.out.size))
  have KG2 := Lib.hid kg2
  have KP2 := Lib.hid kp2
  have KR2 := Lib.hid kr2
  have HO2 := Lib.hid ho2
  clear hb2 KGZ KPZ KRZ OZ BZ_ HH ho2
  obtain ⟨n0, n1, n2, n3, n4, n5, n6, n7, n8, n9, n10, n11⟩ := mach_cells kr2
  have fz := kr2.frozen
  have lz2 : w.heap.size + 1 < w2.heap.size := kr2.lt
  clear kg2 kp2 kr2
  go_wp2_with fail
  exact m_end (S := zero8) (lo := w2.heap.size) (hi := w2.heap.size) (p := 0) (dn := false) Try.results9 rfl rfl KR2.out HB2.out own_nil (by omega) (by omega) (.inl lz2) (Nat.le_refl _)
set_option maxRecDepth 100000 in
set_option maxHeartbeats 4000000 in
theorem istart_yes (code : List (Int × Int)) (hrg : RngC code) (C : Option Addr) (cc : Nat) (p : Int) (d r m c v o i : Value) (S : S8) (hs : totSt S ≤ 2500000) (w : World) (hc : RdIc w (.slice C code.length cc) code) (hr : RdSt w d r m c v o i S) (hx : codeOk code = true ∧ inCode code.length p = true ∧ ok8 S = true) (hf : S.fault = 0) : Calls Try.prog 9 #[.slice C code.length cc, .int .i64 p, .agg #[d, r, .int .i32 S.a, m, c, v, o, i, .int .i64 S.fault, .int .i64 S.fuel]] w (NewMach w (fin8 S (putR8 S 2 (-1)), p, false)) := by
  have HN := Lib.hid (fun W (h : Below w.heap.size w W) => walkerof_yes code hrg C cc p false _ _ _ _ _ _ _ S hs W (hc.below h) (hr.below h) hx.1 hx.2.1 hx.2.2)
  have HTS : Hid (totSt S ≤ 4000000) := Lib.hid (by omega)
  obtain ⟨⟨A0, a0, rfl⟩, ⟨A1, a1, rfl⟩, ⟨A2, a2, rfl⟩, ⟨A3, a3, rfl⟩, ⟨A4, a4, rfl⟩, ⟨A5, a5, rfl⟩, ⟨A6, a6, rfl⟩⟩ := hr.form
  obtain ⟨KP, KR, B0, HZ0⟩ := stm_boxes w #[.slice A0 S.data.length a0, .slice A1 S.ret.length a1, .int .i32 S.a, .slice A2 S.mem.length a2, .slice A3 S.cells.length a3, .slice A4 S.vars.length a4, .slice A5 S.out.length a5, .slice A6 S.inp.length a6, .int .i64 S.fault, .int .i64 S.fuel]
  generalize hX : ((w.alloc (.cells #[.slice A0 S.data.length a0, .slice A1 S.ret.length a1, .int .i32 S.a, .slice A2 S.mem.length a2, .slice A3 S.cells.length a3, .slice A4 S.vars.length a4, .slice A5 S.out.length a5, .slice A6 S.inp.length a6, .int .i64 S.fault, .int .i64 S.fuel] 34)).alloc (.cells #[.slice none 0 0, .slice none 0 0, .int .i32 0, .slice none 0 0, .slice none 0 0, .slice none 0 0, .slice none 0 0, .slice none 0 0, .int .i64 0, .int .i64 0, .int .i64 0, .bool false] 36)) = X at KP KR B0 HZ0
  have HX := Lib.hid hX
  obtain ⟨p0, p1, p2, p3, p4, p5, p6, p7, p8, p9⟩ := st_cells KP.out
  have lz1 : w.heap.size < X.heap.size := KP.out.lt
  have hfb : (S.fault == 0) = true := by simpa using hf
  have HF := Lib.hid hf
  have H24 := Lib.hid ((ok8_iff S).1 hx.2.2).ret
  obtain ⟨T, hT⟩ : ∃ T, fin8 S (putR8 S 2 (-1)) = T := ⟨_, rfl⟩
  have HTT : Hid (totSt T ≤ 4000000) := Lib.hid (by rw [← hT]; exact putR8_tot hs)
  have HTR := Lib.hid (fun d r m c v o i lo hi W (h : OwnSt W lo hi d r m c v o i S) (h1 : hi ≤ W.heap.size) (h2 : lo ≤ hi) => tried_of 35 #[] (fun _ _ => rfl) d r m c v o i S lo hi W h (by omega) h1 hf (putR8 S 2 (-1)) (putR8_tot hs) (fun W' g k1 k2 k3 _ _ => start_one d r m c v o i S g lo hi W' H24.out k3 h2 k2 k1))
  rw [hT] at HTR ⊢
  clear hc hr hs hx hX hrg hf hT
  go_enter Try.func9, Try.ntmps9
  go_upto_region 1 with (fail)
  rw [HX.out]
  go_wp2_with fail
  refine (HN.out _ B0.out).mono ?_
  rintro e w1 ⟨q0, q1, q2, q3, q4, q5, q6, rfl, ho1, hb1⟩
  obtain ⟨⟨E0, e0, rfl⟩, ⟨E1, e1, rfl⟩, ⟨E2, e2, rfl⟩, ⟨E3, e3, rfl⟩, ⟨E4, e4, rfl⟩, ⟨E5, e5, rfl⟩, ⟨E6, e6, rfl⟩⟩ := ho1.form HTS.out
  have sz1 := hb1.size
  have hz := HZ0.out
  have HO1 := Lib.hid ho1
  have KP1 := Lib.hid (KP.out.below hb1 KP.out.lt)
  have KR1 := Lib.hid (KR.out.below hb1 KR.out.lt)
  have HB1 := Lib.hid (B0.out.trans (hb1.mono B0.out.size))
  clear hb1 ho1 KP KR B0 HN p0 p1 p2 p3 p4 p5 p6 p7 p8 p9
  go_upto_region 2 with (fail)
  have kg := Blk.new w1 70 #[.slice E0 S.data.length e0, .slice E1 S.ret.length e1, .int .i32 S.a, .slice E2 S.mem.length e2, .slice E3 S.cells.length e3, .slice E4 S.vars.length e4, .slice E5 S.out.length e5, .slice E6 S.inp.length e6, .int .i64 S.fault, .int .i64 S.fuel, .slice C code.length cc, .int .i64 p, .bool false]
  have kp := KP1.out.alloc (.cells #[.slice E0 S.data.length e0, .slice E1 S.ret.length e1, .int .i32 S.a, .slice E2 S.mem.length e2, .slice E3 S.cells.length e3, .slice E4 S.vars.length e4, .slice E5 S.out.length e5, .slice E6 S.inp.length e6, .int .i64 S.fault, .int .i64 S.fuel, .slice C code.length cc, .int .i64 p, .bool false] 70)
  have kr := KR1.out.alloc (.cells #[.slice E0 S.data.length e0, .slice E1 S.ret.length e1, .int .i32 S.a, .slice E2 S.mem.length e2, .slice E3 S.cells.length e3, .slice E4 S.vars.length e4, .slice E5 S.out.length e5, .slice E6 S.inp.length e6, .int .i64 S.fault, .int .i64 S.fuel, .slice C code.length cc, .int .i64 p, .bool false] 70)
  have ho := HO1.out.alloc (.cells #[.slice E0 S.data.length e0, .slice E1 S.ret.length e1, .int .i32 S.a, .slice E2 S.mem.length e2, .slice E3 S.cells.length e3, .slice E4 S.vars.length e4, .slice E5 S.out.length e5, .slice E6 S.inp.length e6, .int .i64 S.fault, .int .i64 S.fuel, .slice C code.length cc, .int .i64 p, .bool false] 70)
  have hb := HB1.out.alloc HB1.out.size (.cells #[.slice E0 S.data.length e0, .slice E1 S.ret.length e1, .int .i32 S.a, .slice E2 S.mem.length e2, .slice E3 S.cells.length e3, .slice E4 S.vars.length e4, .slice E5 S.out.length e5, .slice E6 S.inp.length e6, .int .i64 S.fault, .int .i64 S.fuel, .slice C code.length cc, .int .i64 p, .bool false] 70)
  have hsz : (w1.alloc (.cells #[.slice E0 S.data.length e0, .slice E1 S.ret.length e1, .int .i32 S.a, .slice E2 S.mem.length e2, .slice E3 S.cells.length e3, .slice E4 S.vars.length e4, .slice E5 S.out.length e5, .slice E6 S.inp.length e6, .int .i64 S.fault, .int .i64 S.fuel, .slice C code.length cc, .int .i64 p, .bool false] 70)).heap.size = w1.heap.size + 1 := by simp
  generalize w1.alloc (.cells #[.slice E0 S.data.length e0, .slice E1 S.ret.length e1, .int .i32 S.a, .slice E2 S.mem.length e2, .slice E3 S.cells.length e3, .slice E4 S.vars.length e4, .slice E5 S.out.length e5, .slice E6 S.inp.length e6, .int .i64 S.fault, .int .i64 S.fuel, .slice C code.length cc, .int .i64 p, .bool false] 70) = Y at kg kp kr ho hb hsz ⊢
  have HH := Lib.hid (halt_any w1.heap.size p S.fault false _ _ _ _ _ _ _ _ _ _ Y kg)
  have KGZ := Lib.hid kg
  have KPZ := Lib.hid kp
  have KRZ := Lib.hid kr
  have OZ := Lib.hid ho
  have BZ_ := Lib.hid hb
  clear kg kp kr ho hb KP1 KR1 HB1 HO1
  go_wp2_with fail
  refine HH.out.mono ?_
  rintro e w2 ⟨rfl, hb2⟩
  have sz2 := hb2.size
  have kg2 := KGZ.out.below hb2 KGZ.out.lt
  have kp2 := KPZ.out.below hb2 KPZ.out.lt
  have kr2 := KRZ.out.below hb2 KRZ.out.lt
  have ho2 := OZ.out.keep hb2
  have HB2 := Lib.hid (BZ_.out.trans (hb2.mono BZ_.out.size))
  have KG2 := Lib.hid kg2
  have KP2 := Lib.hid kp2
  have KR2 := Lib.hid kr2
  have HO2 := Lib.hid ho2
  clear hb2 KGZ KPZ KRZ OZ BZ_ HH ho2
  obtain ⟨p0, p1, p2, p3, p4, p5, p6, p7, p8, p9⟩ := st_cells kp2
  obtain ⟨g0, g1, g2, g3, g4, g5, g6, g7, g8, g9, g10, g11, g12⟩ := walk_cells kg2
  have lz2 : w1.heap.size < w2.heap.size := kg2.lt
  clear kg2 kp2 kr2
  go_wp2_with fail
  refine (HTR.out _ _ _ _ _ _ _ _ _ _ HO2.out (by omega) (by omega)).mono ?_
  rintro e w3 ⟨v0, v1, v2, v3, v4, v5, v6, rfl, ho3, hch⟩
  obtain ⟨⟨C0, c0, rfl⟩, ⟨C1, c1, rfl⟩, ⟨C2, c2, rfl⟩, ⟨C3, c3, rfl⟩, ⟨C4, c4, rfl⟩, ⟨C5, c5, rfl⟩, ⟨C6, c6, rfl⟩⟩ := ho3.form HTT.out
  have sz3 := hch.size
  have kp3 := hch.blk KP2.out (by omega)
  have kr3 := hch.blk KR2.out (by omega)
  have HB3 : Hid (Below w.heap.size w w3) := Lib.hid (HB2.out.trans ⟨hch.os, hch.tape, hch.output, hch.size, fun k hk => hch.block k (Nat.lt_of_lt_of_le hk HB2.out.size) (by omega)⟩)
  have KP3 := Lib.hid kp3
  have KR3 := Lib.hid kr3
  have HO3 := Lib.hid ho3
  obtain ⟨p0, p1, p2, p3, p4, p5, p6, p7, p8, p9⟩ := st_cells kp3
  have fp := kp3.frozen
  have lz3 : w.heap.size < w3.heap.size := kp3.lt
  have lz4 : w.heap.size + 1 < w3.heap.size := kr3.lt
  clear hch kp3 kr3 ho3 HTR HB2 KP2 KR2 KG2 HO2 g0 g1 g2 g3 g4 g5 g6 g7 g8 g9 g10 g11 g12
  go_upto_region 5 with (fail)
  have kp := putSt_blk KP3.out (.slice C0 T.data.length c0) (.slice C1 T.ret.length c1) (.int .i32 T.a) (.slice C2 T.mem.length c2) (.slice C3 T.cells.length c3) (.slice C4 T.vars.length c4) (.slice C5 T.out.length c5) (.slice C6 T.inp.length c6) (.int .i64 T.fault) (.int .i64 T.fuel)
  have kr := KR3.out.grown (putSt_only w3 w.heap.size (.slice C0 T.data.length c0) (.slice C1 T.ret.length c1) (.int .i32 T.a) (.slice C2 T.mem.length c2) (.slice C3 T.cells.length c3) (.slice C4 T.vars.length c4) (.slice C5 T.out.length c5) (.slice C6 T.inp.length c6) (.int .i64 T.fault) (.int .i64 T.fuel)) (by simp)
  have ho := HO3.out.only (putSt_only w3 w.heap.size (.slice C0 T.data.length c0) (.slice C1 T.ret.length c1) (.int .i32 T.a) (.slice C2 T.mem.length c2) (.slice C3 T.cells.length c3) (.slice C4 T.vars.length c4) (.slice C5 T.out.length c5) (.slice C6 T.inp.length c6) (.int .i64 T.fault) (.int .i64 T.fuel)) (.inl (by omega))
  have hb := HB3.out.grown (putSt_only w3 w.heap.size (.slice C0 T.data.length c0) (.slice C1 T.ret.length c1) (.int .i32 T.a) (.slice C2 T.mem.length c2) (.slice C3 T.cells.length c3) (.slice C4 T.vars.length c4) (.slice C5 T.out.length c5) (.slice C6 T.inp.length c6) (.int .i64 T.fault) (.int .i64 T.fuel)) HB3.out.size (fun k hk => by injection hk with hk; omega)
  have hsz := putSt_size w3 w.heap.size (.slice C0 T.data.length c0) (.slice C1 T.ret.length c1) (.int .i32 T.a) (.slice C2 T.mem.length c2) (.slice C3 T.cells.length c3) (.slice C4 T.vars.length c4) (.slice C5 T.out.length c5) (.slice C6 T.inp.length c6) (.int .i64 T.fault) (.int .i64 T.fuel)
  clear p0 p1 p2 p3 p4 p5 p6 p7 p8 p9 fp
  change Code.wp _ _ _ _ (putSt w3 w.heap.size (.slice C0 T.data.length c0) (.slice C1 T.ret.length c1) (.int .i32 T.a) (.slice C2 T.mem.length c2) (.slice C3 T.cells.length c3) (.slice C4 T.vars.length c4) (.slice C5 T.out.length c5) (.slice C6 T.inp.length c6) (.int .i64 T.fault) (.int .i64 T.fuel))
  generalize putSt w3 w.heap.size (.slice C0 T.data.length c0) (.slice C1 T.ret.length c1) (.int .i32 T.a) (.slice C2 T.mem.length c2) (.slice C3 T.cells.length c3) (.slice C4 T.vars.length c4) (.slice C5 T.out.length c5) (.slice C6 T.inp.length c6) (.int .i64 T.fault) (.int .i64 T.fuel) = Y2 at kp kr ho hb hsz ⊢
  obtain ⟨p0, p1, p2, p3, p4, p5, p6, p7, p8, p9⟩ := st_cells kp
  obtain ⟨n0, n1, n2, n3, n4, n5, n6, n7, n8, n9, n10, n11⟩ := mach_cells kr
  have fz := kr.frozen
  have lz5 : w.heap.size < Y2.heap.size := kp.lt
  have lz6 : w.heap.size + 1 < Y2.heap.size := kr.lt
  have KRZ := Lib.hid kr
  have OZ := Lib.hid ho
  have BZ_ := Lib.hid hb
  clear kp kr ho hb KP3 KR3 HO3 HB3
  go_wp2_with fail
  exact m_end (S := T) (p := p) (dn := false) Try.results9 rfl rfl KRZ.out BZ_.out OZ.out (by omega) (by omega) (.inl (by omega)) (by omega)
theorem impl_start (code : List (Int × Int)) (hrg : RngC code) (C : Option Addr) (cc : Nat) (p : Int) (d r m c v o i : Value) (S : S8) (hs : totSt S ≤ 2500000) (w : World) (hc : RdIc w (.slice C code.length cc) code) (hr : RdSt w d r m c v o i S) : Calls Try.prog 9 #[.slice C code.length cc, .int .i64 p, .agg #[d, r, .int .i32 S.a, m, c, v, o, i, .int .i64 S.fault, .int .i64 S.fuel]] w (NewMach w (start8 code p S)) := by
  unfold start8
  by_cases hx : codeOk code = true ∧ inCode code.length p = true ∧ ok8 S = true
  · by_cases hf : S.fault = 0
    · rw [if_pos ⟨can_iff.1 hx, hf⟩]
      exact istart_yes code hrg C cc p d r m c v o i S hs w hc hr hx hf
    · rw [if_neg (fun h => hf h.2)]
      exact istart_fault code hrg C cc p d r m c v o i S hs w hc hr hx hf
  · rw [if_neg (fun h => hx (can_iff.2 h.1))]
    exact istart_no code hrg C cc p d r m c v o i S hs w hc hr hx
end Go.Proofs.Ytmnfdbgiemappaa

namespace Go.Proofs.Ytmnfdbgiemappaa
open Go.RowKit Go

/-- A state's box, a slot's box and the box of a state that is told, all new. -/
theorem sts_boxes (w : World) (cs bs : Array Value) : Hid (Blk (((w.alloc (.cells cs 34)).alloc (.cells bs 58)).alloc (.cells #[.slice none 0 0, .slice none 0 0, .int .i32 0, .slice none 0 0, .slice none 0 0, .slice none 0 0, .slice none 0 0, .slice none 0 0, .int .i64 0, .int .i64 0] 34)) w.heap.size 34 cs) ∧ Hid (Blk (((w.alloc (.cells cs 34)).alloc (.cells bs 58)).alloc (.cells #[.slice none 0 0, .slice none 0 0, .int .i32 0, .slice none 0 0, .slice none 0 0, .slice none 0 0, .slice none 0 0, .slice none 0 0, .int .i64 0, .int .i64 0] 34)) (w.heap.size + 1) 58 bs) ∧ Hid (Blk (((w.alloc (.cells cs 34)).alloc (.cells bs 58)).alloc (.cells #[.slice none 0 0, .slice none 0 0, .int .i32 0, .slice none 0 0, .slice none 0 0, .slice none 0 0, .slice none 0 0, .slice none 0 0, .int .i64 0, .int .i64 0] 34)) (w.heap.size + 2) 34 #[.slice none 0 0, .slice none 0 0, .int .i32 0, .slice none 0 0, .slice none 0 0, .slice none 0 0, .slice none 0 0, .slice none 0 0, .int .i64 0, .int .i64 0]) ∧
    Hid (Below w.heap.size w (((w.alloc (.cells cs 34)).alloc (.cells bs 58)).alloc (.cells #[.slice none 0 0, .slice none 0 0, .int .i32 0, .slice none 0 0, .slice none 0 0, .slice none 0 0, .slice none 0 0, .slice none 0 0, .int .i64 0, .int .i64 0] 34))) ∧ Hid ((((w.alloc (.cells cs 34)).alloc (.cells bs 58)).alloc (.cells #[.slice none 0 0, .slice none 0 0, .int .i32 0, .slice none 0 0, .slice none 0 0, .slice none 0 0, .slice none 0 0, .slice none 0 0, .int .i64 0, .int .i64 0] 34)).heap.size = w.heap.size + 3) := by
  have h0 := Blk.new (w.alloc (.cells cs 34)) 58 bs
  have h1 := Blk.new ((w.alloc (.cells cs 34)).alloc (.cells bs 58)) 34 #[.slice none 0 0, .slice none 0 0, .int .i32 0, .slice none 0 0, .slice none 0 0, .slice none 0 0, .slice none 0 0, .slice none 0 0, .int .i64 0, .int .i64 0]
  rw [World.size_alloc] at h0
  rw [World.size_alloc, World.size_alloc] at h1
  exact ⟨Lib.hid (((Blk.new w _ cs).alloc _).alloc _), Lib.hid (h0.alloc _), Lib.hid h1, Lib.hid ((below_alloc2 w _ _).alloc (below_alloc2 w _ _).size _), Lib.hid (by simp)⟩
theorem src_slot (W : World) (k n : Int) : SrcAt (W.alloc (.cells #[.int .i64 k, .int .i32 n] 58)) 2 (.slice (some ⟨W.heap.size, 0, none⟩) 1 1) 1 (slv [(k, n)]) := by
  have hb := heap_alloc_new W (.cells #[.int .i64 k, .int .i32 n] 58)
  refine ⟨_, _, rfl, rfl, (by simp), ?_⟩
  intro a ha j x hj
  injection ha with ha
  subst ha
  rw [addr_lit, Nat.zero_add]
  rw [cell_of_row _ _ j _ _ _ hb]
  simpa [slv] using hj
set_option maxRecDepth 100000 in
set_option maxHeartbeats 4000000 in
theorem l12put_full (d r m c v o i : Value) (S : S8) (k n : Int) (hs : totSt S ≤ 2500000) (w : World) (hr : RdSt w d r m c v o i S) (h24 : S.ret.length = 24) : Calls Try.prog 25 #[.agg #[d, r, .int .i32 S.a, m, c, v, o, i, .int .i64 S.fault, .int .i64 S.fuel], .agg #[.int .i64 k, .int .i32 n]] w (NewSt w { S with fault := 3 }) := by
  obtain ⟨⟨A0, a0, rfl⟩, ⟨A1, a1, rfl⟩, ⟨A2, a2, rfl⟩, ⟨A3, a3, rfl⟩, ⟨A4, a4, rfl⟩, ⟨A5, a5, rfl⟩, ⟨A6, a6, rfl⟩⟩ := hr.form
  obtain ⟨KP, KS, KR, B0, HZ0⟩ := sts_boxes w #[.slice A0 S.data.length a0, .slice A1 S.ret.length a1, .int .i32 S.a, .slice A2 S.mem.length a2, .slice A3 S.cells.length a3, .slice A4 S.vars.length a4, .slice A5 S.out.length a5, .slice A6 S.inp.length a6, .int .i64 S.fault, .int .i64 S.fuel] #[.int .i64 k, .int .i32 n]
  generalize hX : (((w.alloc (.cells #[.slice A0 S.data.length a0, .slice A1 S.ret.length a1, .int .i32 S.a, .slice A2 S.mem.length a2, .slice A3 S.cells.length a3, .slice A4 S.vars.length a4, .slice A5 S.out.length a5, .slice A6 S.inp.length a6, .int .i64 S.fault, .int .i64 S.fuel] 34)).alloc (.cells #[.int .i64 k, .int .i32 n] 58)).alloc (.cells #[.slice none 0 0, .slice none 0 0, .int .i32 0, .slice none 0 0, .slice none 0 0, .slice none 0 0, .slice none 0 0, .slice none 0 0, .int .i64 0, .int .i64 0] 34)) = X at KP KS KR B0 HZ0
  have HX := Lib.hid hX
  have HS := Lib.hid (show totSt S ≤ 4000000 by omega)
  have HF := Lib.hid (fun W (h : Below w.heap.size w W) => spec_fault _ _ _ _ _ _ _ S 3 HS.out W (hr.below h))
  have g1 : ((S.ret.length : Int) == 24) = true := by rw [h24]; decide
  obtain ⟨p0, p1, p2, p3, p4, p5, p6, p7, p8, p9⟩ := st_cells KP.out
  have lz1 : w.heap.size < X.heap.size := KP.out.lt
  clear hr hs h24 hX KS
  go_enter Try.func25, Try.ntmps25
  go_upto_region 1 with (fail)
  rw [HX.out]
  go_wp2_with fail
  refine (HF.out _ B0.out).mono ?_
  rintro e w1 ⟨v0, v1, v2, v3, v4, v5, v6, rfl, ho, hb1⟩
  obtain ⟨⟨C0, c0, rfl⟩, ⟨C1, c1, rfl⟩, ⟨C2, c2, rfl⟩, ⟨C3, c3, rfl⟩, ⟨C4, c4, rfl⟩, ⟨C5, c5, rfl⟩, ⟨C6, c6, rfl⟩⟩ := ho.form (S := { S with fault := 3 }) HS.out
  have sz1 := hb1.size
  have hz := HZ0.out
  have kr1 := KR.out.below hb1 KR.out.lt
  have HB1 := Lib.hid (B0.out.trans (hb1.mono B0.out.size))
  obtain ⟨n0, n1, n2, n3, n4, n5, n6, n7, n8, n9⟩ := st_cells kr1
  have fz := kr1.frozen
  have lz2 : w.heap.size + 2 < w1.heap.size := kr1.lt
  have KR1 := Lib.hid kr1
  have HO1 := Lib.hid ho
  clear hb1 KP KR B0 HF p0 p1 p2 p3 p4 p5 p6 p7 p8 p9 kr1 ho
  go_wp2_with fail
  exact st_end (S := { S with fault := 3 }) Try.results25 rfl rfl KR1.out HB1.out HO1.out (by omega) (by omega) (.inl (by omega)) (by omega)
set_option maxRecDepth 100000 in
set_option maxHeartbeats 4000000 in
theorem l12put_yes (d r m c v o i : Value) (S : S8) (k n : Int) (hs : totSt S ≤ 2500000) (w : World) (hr : RdSt w d r m c v o i S) (h24 : S.ret.length < 24) : Calls Try.prog 25 #[.agg #[d, r, .int .i32 S.a, m, c, v, o, i, .int .i64 S.fault, .int .i64 S.fuel], .agg #[.int .i64 k, .int .i32 n]] w (NewSt w { S with ret := S.ret ++ [(k, n)] }) := by
  obtain ⟨⟨A0, a0, rfl⟩, ⟨A1, a1, rfl⟩, ⟨A2, a2, rfl⟩, ⟨A3, a3, rfl⟩, ⟨A4, a4, rfl⟩, ⟨A5, a5, rfl⟩, ⟨A6, a6, rfl⟩⟩ := hr.form
  obtain ⟨KP, KS, KR, B0, HZ0⟩ := sts_boxes w #[.slice A0 S.data.length a0, .slice A1 S.ret.length a1, .int .i32 S.a, .slice A2 S.mem.length a2, .slice A3 S.cells.length a3, .slice A4 S.vars.length a4, .slice A5 S.out.length a5, .slice A6 S.inp.length a6, .int .i64 S.fault, .int .i64 S.fuel] #[.int .i64 k, .int .i32 n]
  generalize hX : (((w.alloc (.cells #[.slice A0 S.data.length a0, .slice A1 S.ret.length a1, .int .i32 S.a, .slice A2 S.mem.length a2, .slice A3 S.cells.length a3, .slice A4 S.vars.length a4, .slice A5 S.out.length a5, .slice A6 S.inp.length a6, .int .i64 S.fault, .int .i64 S.fuel] 34)).alloc (.cells #[.int .i64 k, .int .i32 n] 58)).alloc (.cells #[.slice none 0 0, .slice none 0 0, .int .i32 0, .slice none 0 0, .slice none 0 0, .slice none 0 0, .slice none 0 0, .slice none 0 0, .int .i64 0, .int .i64 0] 34)) = X at KP KS KR B0 HZ0
  have HX := Lib.hid hX
  have HS := Lib.hid (show totSt S ≤ 4000000 by omega)
  have HC := Lib.hid (fun W (h : Below w.heap.size w W) => spec_copy _ _ _ _ _ _ _ S HS.out W (hr.below h))
  have g1 : ((S.ret.length : Int) == 24) = false := by simp; omega
  obtain ⟨i0, hi0, hz0, hz1, hz2⟩ := info_parts infoS
  obtain ⟨p0, p1, p2, p3, p4, p5, p6, p7, p8, p9⟩ := st_cells KP.out
  have lz1 : w.heap.size < X.heap.size := KP.out.lt
  clear hr hs hX
  go_enter Try.func25, Try.ntmps25
  go_upto_region 1 with (fail)
  rw [HX.out]
  go_wp2_with fail
  refine (HC.out _ B0.out).mono ?_
  rintro e w1 ⟨v0, v1, v2, v3, v4, v5, v6, rfl, ho, hb1⟩
  obtain ⟨⟨C0, c0, rfl⟩, ⟨C1, c1, rfl⟩, ⟨C2, c2, rfl⟩, ⟨C3, c3, rfl⟩, ⟨C4, c4, rfl⟩, ⟨C5, c5, rfl⟩, ⟨C6, c6, rfl⟩⟩ := ho.form HS.out
  have sz1 := hb1.size
  have hz := HZ0.out
  have kr1 := KR.out.below hb1 KR.out.lt
  have ks1 := KS.out.below hb1 KS.out.lt
  have HB1 := Lib.hid (B0.out.trans (hb1.mono B0.out.size))
  have KR1 := Lib.hid kr1
  have KS1 := Lib.hid ks1
  have HO1 := Lib.hid ho
  clear hb1 KP KR KS B0 HC p0 p1 p2 p3 p4 p5 p6 p7 p8 p9 kr1 ho ks1
  go_upto_region 4 with (fail)
  have ko := Blk.new w1 34 #[.slice C0 S.data.length c0, .slice C1 S.ret.length c1, .int .i32 S.a, .slice C2 S.mem.length c2, .slice C3 S.cells.length c3, .slice C4 S.vars.length c4, .slice C5 S.out.length c5, .slice C6 S.inp.length c6, .int .i64 S.fault, .int .i64 S.fuel]
  have kr := KR1.out.alloc (.cells #[.slice C0 S.data.length c0, .slice C1 S.ret.length c1, .int .i32 S.a, .slice C2 S.mem.length c2, .slice C3 S.cells.length c3, .slice C4 S.vars.length c4, .slice C5 S.out.length c5, .slice C6 S.inp.length c6, .int .i64 S.fault, .int .i64 S.fuel] 34)
  have ks := KS1.out.alloc (.cells #[.slice C0 S.data.length c0, .slice C1 S.ret.length c1, .int .i32 S.a, .slice C2 S.mem.length c2, .slice C3 S.cells.length c3, .slice C4 S.vars.length c4, .slice C5 S.out.length c5, .slice C6 S.inp.length c6, .int .i64 S.fault, .int .i64 S.fuel] 34)
  have ho := HO1.out.alloc (.cells #[.slice C0 S.data.length c0, .slice C1 S.ret.length c1, .int .i32 S.a, .slice C2 S.mem.length c2, .slice C3 S.cells.length c3, .slice C4 S.vars.length c4, .slice C5 S.out.length c5, .slice C6 S.inp.length c6, .int .i64 S.fault, .int .i64 S.fuel] 34)
  have hb := HB1.out.alloc HB1.out.size (.cells #[.slice C0 S.data.length c0, .slice C1 S.ret.length c1, .int .i32 S.a, .slice C2 S.mem.length c2, .slice C3 S.cells.length c3, .slice C4 S.vars.length c4, .slice C5 S.out.length c5, .slice C6 S.inp.length c6, .int .i64 S.fault, .int .i64 S.fuel] 34)
  have hy : (w1.alloc (.cells #[.slice C0 S.data.length c0, .slice C1 S.ret.length c1, .int .i32 S.a, .slice C2 S.mem.length c2, .slice C3 S.cells.length c3, .slice C4 S.vars.length c4, .slice C5 S.out.length c5, .slice C6 S.inp.length c6, .int .i64 S.fault, .int .i64 S.fuel] 34)).heap.size = w1.heap.size + 1 := by simp
  generalize w1.alloc (.cells #[.slice C0 S.data.length c0, .slice C1 S.ret.length c1, .int .i32 S.a, .slice C2 S.mem.length c2, .slice C3 S.cells.length c3, .slice C4 S.vars.length c4, .slice C5 S.out.length c5, .slice C6 S.inp.length c6, .int .i64 S.fault, .int .i64 S.fuel] 34) = Y at ko kr ks ho hb hy ⊢
  have SRC := Lib.hid (show SrcAt (Y.alloc (.cells #[.int .i64 k, .int .i32 n] 58)) 2 (.slice (some ⟨w1.heap.size + 1, 0, none⟩) 1 1) 1 (slv [(k, n)]) by have h := src_slot Y k n; rw [hy] at h; exact h)
  obtain ⟨s0, s1, s2, s3, s4, s5, s6, s7, s8, s9⟩ := st_cells (ko.alloc (.cells #[.int .i64 k, .int .i32 n] 58))
  obtain ⟨t0, t1, t2, t3, t4, t5, t6, t7, t8, t9⟩ := st_cells ko
  have u0 := ks.cell 0
  have u1 := ks.cell 1
  have hbn : w.heap.size + 2 ≤ (Y.alloc (.cells #[.int .i64 k, .int .i32 n] 58)).heap.size := by simp; omega
  have ly : w1.heap.size < Y.heap.size := ko.lt
  have ls : w.heap.size + 1 < Y.heap.size := ks.lt
  have OD := Lib.hid (ho.alloc (.cells #[.int .i64 k, .int .i32 n] 58)).r
  have KO2 := Lib.hid (ko.alloc (.cells #[.int .i64 k, .int .i32 n] 58))
  have KR2 := Lib.hid (kr.alloc (.cells #[.int .i64 k, .int .i32 n] 58))
  have HO2 := Lib.hid (ho.alloc (.cells #[.int .i64 k, .int .i32 n] 58))
  have HB2 := Lib.hid (hb.alloc hb.size (.cells #[.int .i64 k, .int .i32 n] 58))
  have hyz : (Y.alloc (.cells #[.int .i64 k, .int .i32 n] 58)).heap.size = Y.heap.size + 1 := by simp
  clear ko kr ks ho hb KR1 KS1 HO1 HB1
  go_wp2_with (at_builtin; refine wpList_append_src rfl _ _ 32 rfl X.heap.size 58 i0 (.agg #[.int .i64 0, .int .i32 0]) 2 16 Try.underlying32 hi0 hz0 hz1 hz2 rfl (by decide) (.slice C1 S.ret.length c1) S.ret.length (slv S.ret) rfl OD.out (.slice (some ⟨w1.heap.size + 1, 0, none⟩) 1 1) 1 (slv [(k, n)]) rfl SRC.out slv_one (by unfold maxLen; omega) (by omega) (by omega) ?_; intro v' w2 hown halt; refine unstop ?_)
  refine Stop.go ?_
  have hd' : w2.ownsRow X.heap.size 58 2 v' (S.ret ++ [(k, n)]).length (slv (S.ret ++ [(k, n)])) := by
    rw [slv_app, List.length_append]
    exact hown
  have hgr := halt.out.grown
  have HO3 := Lib.hid (HO2.out.newRet hd' hgr)
  have gne1 : some (w.heap.size + 2) ≠ (Value.slice C1 S.ret.length c1).ownBlock := fun e => by have := own_lt HO2.out.r _ e.symm; omega
  have gne2 : some w1.heap.size ≠ (Value.slice C1 S.ret.length c1).ownBlock := fun e => by have := HO2.out.top _ (by simp) _ e.symm; omega
  have kr3 := KR2.out.grown hgr gne1
  have ko3 := KO2.out.grown hgr gne2
  have HB3 := Lib.hid (HB2.out.grown hgr HB2.out.size (fun k hk => by have := own_lt HO2.out.r k hk; omega))
  have sz3 := hgr.size
  obtain ⟨D, dc, rfl⟩ := own_formG hd'
  have hlen : (S.ret ++ [(k, n)]).length = S.ret.length + 1 := by rw [List.length_append]; rfl
  rw [hlen] at HO3
  have KR3 := Lib.hid kr3
  have KO3 := Lib.hid ko3
  clear s0 s1 s2 s3 s4 s5 s6 s7 s8 s9 t0 t1 t2 t3 t4 t5 t6 t7 t8 t9
  obtain ⟨q0, q1, q2, q3, q4, q5, q6, q7, q8, q9⟩ := st_cells ko3
  have fo := ko3.frozen
  have lo_ : w1.heap.size < w2.heap.size := ko3.lt
  rw [hlen]
  clear hown halt hd' hgr gne1 gne2 kr3 ko3 KR2 KO2 HO2 HB2 OD SRC
  go_upto_region 5 with (fail)
  have ko := KO3.out.put 1 (.slice D (S.ret.length + 1) dc)
  have kr := KR3.out.far (p := ⟨w1.heap.size, 1, none⟩) (by show w.heap.size + 2 ≠ w1.heap.size; omega) (.slice D (S.ret.length + 1) dc)
  have ho := HO3.out.atBox KO3.out (only_setCell (World.grownBy.refl _ _) (p := ⟨w1.heap.size, 1, none⟩) (.inl rfl) (.slice D (S.ret.length + 1) dc)) (by decide) (by decide) (by decide) (by decide) (by decide)
  have hb := HB3.out.setCell (p := ⟨w1.heap.size, 1, none⟩) (show w.heap.size ≤ w1.heap.size by omega) (.slice D (S.ret.length + 1) dc)
  have hs_ : (w2.setCell ⟨w1.heap.size, 1, none⟩ (.slice D (S.ret.length + 1) dc)).heap.size = w2.heap.size := by simp [World.setCell]
  clear q0 q1 q2 q3 q4 q5 q6 q7 q8 q9 fo
  generalize w2.setCell ⟨w1.heap.size, 1, none⟩ (.slice D (S.ret.length + 1) dc) = wz at ko kr ho hb hs_ ⊢
  obtain ⟨m0, m1, m2, m3, m4, m5, m6, m7, m8, m9⟩ := st_cells ko
  obtain ⟨n0, n1, n2, n3, n4, n5, n6, n7, n8, n9⟩ := st_cells kr
  have lz2 : w.heap.size + 2 < wz.heap.size := kr.lt
  have lz3 : w1.heap.size < wz.heap.size := ko.lt
  have fz1 := kr.frozen
  have KRZ := Lib.hid kr
  have OZ := Lib.hid ho
  have BZ_ := Lib.hid hb
  clear kr ko ho hb KR3 KO3 HO3 HB3
  go_wp2_with fail
  exact st_end (S := { S with ret := S.ret ++ [(k, n)] }) Try.results25 rfl rfl KRZ.out BZ_.out OZ.out (by omega) (by omega) (.inl (by omega)) (by omega)
theorem spec_l12put (d r m c v o i : Value) (S : S8) (k n : Int) (hs : totSt S ≤ 2500000) (w : World) (hr : RdSt w d r m c v o i S) (h24 : S.ret.length ≤ 24) : Calls Try.prog 25 #[.agg #[d, r, .int .i32 S.a, m, c, v, o, i, .int .i64 S.fault, .int .i64 S.fuel], .agg #[.int .i64 k, .int .i32 n]] w (NewSt w (fin8 S (putR8 S k n))) := by
  unfold putR8
  by_cases h : S.ret.length = 24
  · rw [if_pos h]
    exact l12put_full d r m c v o i S k n hs w hr h
  · rw [if_neg h]
    exact l12put_yes d r m c v o i S k n hs w hr (by omega)
end Go.Proofs.Ytmnfdbgiemappaa
