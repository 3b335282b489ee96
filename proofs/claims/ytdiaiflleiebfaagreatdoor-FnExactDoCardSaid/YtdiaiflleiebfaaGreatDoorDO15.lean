/-
  spec.Do: faults.
-/
import Derived.Test.YtdiaiflleiebfaaGreatDoorDO9
import Derived.Test.YtdiaiflleiebfaaGreatDoorDO13
import Derived.Test.YtdiaiflleiebfaaGreatDoorDO14
namespace Go.Proofs.YtdiaiflleiebfaaGreatDoor
open Go.RowKit Go

theorem prim_ne (k : Nat) (hk : k < 24) : (primNames.getD k ⟨#[]⟩).toList.isEmpty = false := by
  rw [ByteArray.toList_eq]
  match k, hk with
  | 0, _ => rfl
  | 1, _ => rfl
  | 2, _ => rfl
  | 3, _ => rfl
  | 4, _ => rfl
  | 5, _ => rfl
  | 6, _ => rfl
  | 7, _ => rfl
  | 8, _ => rfl
  | 9, _ => rfl
  | 10, _ => rfl
  | 11, _ => rfl
  | 12, _ => rfl
  | 13, _ => rfl
  | 14, _ => rfl
  | 15, _ => rfl
  | 16, _ => rfl
  | 17, _ => rfl
  | 18, _ => rfl
  | 19, _ => rfl
  | 20, _ => rfl
  | 21, _ => rfl
  | 22, _ => rfl
  | 23, _ => rfl
  | k + 24, h => omega
theorem spec_primnameU (k : Int) (w : World) : Calls Tryz.prog 38 #[.int .i64 k] w fun e w' => e = .returned (.string (primN k)) ∧ Below w.heap.size w w' := by
  by_cases h : 0 ≤ k ∧ k ≤ 23
  · have HIN := Lib.hid (fun W => in_any k 0 23 W)
    rw [inB_true h.1 h.2] at HIN
    obtain ⟨n, rfl⟩ : ∃ n : Nat, k = n := ⟨k.toNat, by omega⟩
    have hn : n < 24 := by omega
    obtain ⟨nm, hnm⟩ : ∃ nm, primNames.getD n ⟨#[]⟩ = nm := ⟨_, rfl⟩
    have HE : Hid (primN (n : Int) = nm) := Lib.hid (by unfold primN; rw [if_pos h]; exact hnm)
    have HNM := Lib.hid hnm
    have g1 : (0 : Int) ≤ (n : Int) := by omega
    have g2 : (n : Int) < 24 := by omega
    clear h hnm
    rw [HE.out]
    go_enter Tryz.func38, Tryz.ntmps38
    go_wp2_with fail
    refine (names_any _).mono ?_
    rintro e w1 ⟨rfl, hb, hbl⟩
    have c0 := strs_cell hb hn
    rw [HNM.out] at c0
    have HB := Lib.hid hbl
    clear hb hbl
    go_wp2_with fail
    refine (HIN.out _).mono ?_
    rintro e w' ⟨rfl, rfl⟩
    go_wp2_with fail
    go_ret
    exact ⟨rfl, HB.out⟩
  · have HIN := Lib.hid (fun W => in_any k 0 23 W)
    rw [inB_false h] at HIN
    have HE : Hid (primN k = ⟨#[]⟩) := Lib.hid (by unfold primN; rw [if_neg h])
    clear h
    rw [HE.out]
    go_enter Tryz.func38, Tryz.ntmps38
    go_wp2_with fail
    refine (names_any _).mono ?_
    rintro e w1 ⟨rfl, hb, hbl⟩
    have HB := Lib.hid hbl
    clear hb hbl
    go_wp2_with fail
    refine (HIN.out _).mono ?_
    rintro e w' ⟨rfl, rfl⟩
    go_wp2_with fail
    go_ret
    exact ⟨rfl, HB.out⟩
set_option maxRecDepth 100000 in
set_option maxHeartbeats 2500000 in
theorem sdo_no (d r m c v o i : Value) (S : S8) (k : Int) (_hs : totSt S ≤ 2500000) (w : World) (hr : RdSt w d r m c v o i S) (hk : ok8 S = false) :
    Calls Tryz.prog 11 #[.agg #[d, r, .int .i32 S.a, m, c, v, o, i, .int .i64 S.fault, .int .i64 S.fuel], .int .i64 k] w (NewSt w (zero8)) := by
  have hform := hr.form
  obtain ⟨⟨A0, a0, rfl⟩, ⟨A1, a1, rfl⟩, ⟨A2, a2, rfl⟩, ⟨A3, a3, rfl⟩, ⟨A4, a4, rfl⟩, ⟨A5, a5, rfl⟩, ⟨A6, a6, rfl⟩⟩ := hform
  have e1 : (w.alloc (.cells #[.slice A0 S.data.length a0, .slice A1 S.ret.length a1, .int .i32 S.a, .slice A2 S.mem.length a2, .slice A3 S.cells.length a3, .slice A4 S.vars.length a4, .slice A5 S.out.length a5, .slice A6 S.inp.length a6, .int .i64 S.fault, .int .i64 S.fuel] 29)).heap.size = w.heap.size + 1 := by simp
  have KP := Lib.hid (((Blk.new w 29 #[.slice A0 S.data.length a0, .slice A1 S.ret.length a1, .int .i32 S.a, .slice A2 S.mem.length a2, .slice A3 S.cells.length a3, .slice A4 S.vars.length a4, .slice A5 S.out.length a5, .slice A6 S.inp.length a6, .int .i64 S.fault, .int .i64 S.fuel]).alloc (.cells #[.slice none 0 0, .slice none 0 0, .int .i32 0, .slice none 0 0, .slice none 0 0, .slice none 0 0, .slice none 0 0, .slice none 0 0, .int .i64 0, .int .i64 0] 29)))
  have KR : Hid (Blk ((w.alloc (.cells #[.slice A0 S.data.length a0, .slice A1 S.ret.length a1, .int .i32 S.a, .slice A2 S.mem.length a2, .slice A3 S.cells.length a3, .slice A4 S.vars.length a4, .slice A5 S.out.length a5, .slice A6 S.inp.length a6, .int .i64 S.fault, .int .i64 S.fuel] 29)).alloc (.cells #[.slice none 0 0, .slice none 0 0, .int .i32 0, .slice none 0 0, .slice none 0 0, .slice none 0 0, .slice none 0 0, .slice none 0 0, .int .i64 0, .int .i64 0] 29)) (w.heap.size + 1) 29 #[.slice none 0 0, .slice none 0 0, .int .i32 0, .slice none 0 0, .slice none 0 0, .slice none 0 0, .slice none 0 0, .slice none 0 0, .int .i64 0, .int .i64 0]) := Lib.hid (by have := Blk.new (w.alloc (.cells #[.slice A0 S.data.length a0, .slice A1 S.ret.length a1, .int .i32 S.a, .slice A2 S.mem.length a2, .slice A3 S.cells.length a3, .slice A4 S.vars.length a4, .slice A5 S.out.length a5, .slice A6 S.inp.length a6, .int .i64 S.fault, .int .i64 S.fuel] 29)) 29 #[.slice none 0 0, .slice none 0 0, .int .i32 0, .slice none 0 0, .slice none 0 0, .slice none 0 0, .slice none 0 0, .slice none 0 0, .int .i64 0, .int .i64 0]; rw [e1] at this; exact this)
  have B0 : Hid (Below w.heap.size w ((w.alloc (.cells #[.slice A0 S.data.length a0, .slice A1 S.ret.length a1, .int .i32 S.a, .slice A2 S.mem.length a2, .slice A3 S.cells.length a3, .slice A4 S.vars.length a4, .slice A5 S.out.length a5, .slice A6 S.inp.length a6, .int .i64 S.fault, .int .i64 S.fuel] 29)).alloc (.cells #[.slice none 0 0, .slice none 0 0, .int .i32 0, .slice none 0 0, .slice none 0 0, .slice none 0 0, .slice none 0 0, .slice none 0 0, .int .i64 0, .int .i64 0] 29))) := Lib.hid (below_alloc2 w _ _)
  have Z0 : ((w.alloc (.cells #[.slice A0 S.data.length a0, .slice A1 S.ret.length a1, .int .i32 S.a, .slice A2 S.mem.length a2, .slice A3 S.cells.length a3, .slice A4 S.vars.length a4, .slice A5 S.out.length a5, .slice A6 S.inp.length a6, .int .i64 S.fault, .int .i64 S.fuel] 29)).alloc (.cells #[.slice none 0 0, .slice none 0 0, .int .i32 0, .slice none 0 0, .slice none 0 0, .slice none 0 0, .slice none 0 0, .slice none 0 0, .int .i64 0, .int .i64 0] 29)).heap.size = w.heap.size + 2 := by simp
  have HZ0 := Lib.hid Z0
  clear Z0 e1
  have HK := Lib.hid (fun W (h : Below w.heap.size w W) => spec_stok _ _ _ _ _ _ _ S W (hr.below h))
  rw [hk] at HK
  clear hr hk _hs
  go_enter Tryz.func11, Tryz.ntmps11
  go_wp2_with fail
  refine (HK.out _ B0.out).mono ?_
  rintro e w1 ⟨rfl, hb1⟩
  have sz1 : w.heap.size + 2 ≤ w1.heap.size := by have := hb1.size; rw [HZ0.out] at this; exact this
  have HB1 : Hid (Below w.heap.size w w1) := Lib.hid (B0.out.trans (hb1.mono B0.out.size))
  have KP1 := Lib.hid (KP.out.below hb1 KP.out.lt)
  have KR1 := Lib.hid (KR.out.below hb1 KR.out.lt)
  obtain ⟨p0, p1, p2, p3, p4, p5, p6, p7, p8, p9⟩ := st_cells KP1.out
  obtain ⟨r0, r1, r2, r3, r4, r5, r6, r7, r8, r9⟩ := st_cells KR1.out
  have lp : w.heap.size < w1.heap.size := KP1.out.lt
  have lr : w.heap.size + 1 < w1.heap.size := KR1.out.lt
  have fp := KP1.out.frozen
  have fr := KR1.out.frozen
  clear hb1 KP KR B0 HZ0 HK
  go_wp2_with fail
  have kr := KR1.out
  show bodyPost _ _ _ _ _ (putSt w1 (w.heap.size + 1) (.slice none 0 0) (.slice none 0 0) (.int .i32 0) (.slice none 0 0) (.slice none 0 0) (.slice none 0 0) (.slice none 0 0) (.slice none 0 0) (.int .i64 0) (.int .i64 0))
  have y1 := putSt_blk kr (.slice none 0 0) (.slice none 0 0) (.int .i32 0) (.slice none 0 0) (.slice none 0 0) (.slice none 0 0) (.slice none 0 0) (.slice none 0 0) (.int .i64 0) (.int .i64 0)
  have y2 := HB1.out.grown (putSt_only w1 (w.heap.size + 1) (.slice none 0 0) (.slice none 0 0) (.int .i32 0) (.slice none 0 0) (.slice none 0 0) (.slice none 0 0) (.slice none 0 0) (.slice none 0 0) (.int .i64 0) (.int .i64 0)) HB1.out.size (fun k hk => by injection hk with hk; omega)
  generalize putSt w1 (w.heap.size + 1) (.slice none 0 0) (.slice none 0 0) (.int .i32 0) (.slice none 0 0) (.slice none 0 0) (.slice none 0 0) (.slice none 0 0) (.slice none 0 0) (.int .i64 0) (.int .i64 0) = W at y1 y2 ⊢
  obtain ⟨z0, z1, z2, z3, z4, z5, z6, z7, z8, z9⟩ := st_cells y1
  exact bodyPost_ret (v := .agg #[.slice none 0 0, .slice none 0 0, .int .i32 0, .slice none 0 0, .slice none 0 0, .slice none 0 0, .slice none 0 0, .slice none 0 0, .int .i64 0, .int .i64 0]) (by simp [results, Tryz.results11, z0, z1, z2, z3, z4, z5, z6, z7, z8, z9, go_sem]) rfl (newst_zero y2)
set_option maxRecDepth 100000 in
set_option maxHeartbeats 2500000 in
theorem sdo_fault (d r m c v o i : Value) (S : S8) (k : Int) (hs : totSt S ≤ 2500000) (w : World) (hr : RdSt w d r m c v o i S) (hk : ok8 S = true) (hf : S.fault ≠ 0) :
    Calls Tryz.prog 11 #[.agg #[d, r, .int .i32 S.a, m, c, v, o, i, .int .i64 S.fault, .int .i64 S.fuel], .int .i64 k] w (NewSt w (S)) := by
  have hform := hr.form
  obtain ⟨⟨A0, a0, rfl⟩, ⟨A1, a1, rfl⟩, ⟨A2, a2, rfl⟩, ⟨A3, a3, rfl⟩, ⟨A4, a4, rfl⟩, ⟨A5, a5, rfl⟩, ⟨A6, a6, rfl⟩⟩ := hform
  have e1 : (w.alloc (.cells #[.slice A0 S.data.length a0, .slice A1 S.ret.length a1, .int .i32 S.a, .slice A2 S.mem.length a2, .slice A3 S.cells.length a3, .slice A4 S.vars.length a4, .slice A5 S.out.length a5, .slice A6 S.inp.length a6, .int .i64 S.fault, .int .i64 S.fuel] 29)).heap.size = w.heap.size + 1 := by simp
  have KP := Lib.hid (((Blk.new w 29 #[.slice A0 S.data.length a0, .slice A1 S.ret.length a1, .int .i32 S.a, .slice A2 S.mem.length a2, .slice A3 S.cells.length a3, .slice A4 S.vars.length a4, .slice A5 S.out.length a5, .slice A6 S.inp.length a6, .int .i64 S.fault, .int .i64 S.fuel]).alloc (.cells #[.slice none 0 0, .slice none 0 0, .int .i32 0, .slice none 0 0, .slice none 0 0, .slice none 0 0, .slice none 0 0, .slice none 0 0, .int .i64 0, .int .i64 0] 29)))
  have KR : Hid (Blk ((w.alloc (.cells #[.slice A0 S.data.length a0, .slice A1 S.ret.length a1, .int .i32 S.a, .slice A2 S.mem.length a2, .slice A3 S.cells.length a3, .slice A4 S.vars.length a4, .slice A5 S.out.length a5, .slice A6 S.inp.length a6, .int .i64 S.fault, .int .i64 S.fuel] 29)).alloc (.cells #[.slice none 0 0, .slice none 0 0, .int .i32 0, .slice none 0 0, .slice none 0 0, .slice none 0 0, .slice none 0 0, .slice none 0 0, .int .i64 0, .int .i64 0] 29)) (w.heap.size + 1) 29 #[.slice none 0 0, .slice none 0 0, .int .i32 0, .slice none 0 0, .slice none 0 0, .slice none 0 0, .slice none 0 0, .slice none 0 0, .int .i64 0, .int .i64 0]) := Lib.hid (by have := Blk.new (w.alloc (.cells #[.slice A0 S.data.length a0, .slice A1 S.ret.length a1, .int .i32 S.a, .slice A2 S.mem.length a2, .slice A3 S.cells.length a3, .slice A4 S.vars.length a4, .slice A5 S.out.length a5, .slice A6 S.inp.length a6, .int .i64 S.fault, .int .i64 S.fuel] 29)) 29 #[.slice none 0 0, .slice none 0 0, .int .i32 0, .slice none 0 0, .slice none 0 0, .slice none 0 0, .slice none 0 0, .slice none 0 0, .int .i64 0, .int .i64 0]; rw [e1] at this; exact this)
  have B0 : Hid (Below w.heap.size w ((w.alloc (.cells #[.slice A0 S.data.length a0, .slice A1 S.ret.length a1, .int .i32 S.a, .slice A2 S.mem.length a2, .slice A3 S.cells.length a3, .slice A4 S.vars.length a4, .slice A5 S.out.length a5, .slice A6 S.inp.length a6, .int .i64 S.fault, .int .i64 S.fuel] 29)).alloc (.cells #[.slice none 0 0, .slice none 0 0, .int .i32 0, .slice none 0 0, .slice none 0 0, .slice none 0 0, .slice none 0 0, .slice none 0 0, .int .i64 0, .int .i64 0] 29))) := Lib.hid (below_alloc2 w _ _)
  have Z0 : ((w.alloc (.cells #[.slice A0 S.data.length a0, .slice A1 S.ret.length a1, .int .i32 S.a, .slice A2 S.mem.length a2, .slice A3 S.cells.length a3, .slice A4 S.vars.length a4, .slice A5 S.out.length a5, .slice A6 S.inp.length a6, .int .i64 S.fault, .int .i64 S.fuel] 29)).alloc (.cells #[.slice none 0 0, .slice none 0 0, .int .i32 0, .slice none 0 0, .slice none 0 0, .slice none 0 0, .slice none 0 0, .slice none 0 0, .int .i64 0, .int .i64 0] 29)).heap.size = w.heap.size + 2 := by simp
  have HZ0 := Lib.hid Z0
  clear Z0 e1
  have HK := Lib.hid (fun W (h : Below w.heap.size w W) => spec_stok _ _ _ _ _ _ _ S W (hr.below h))
  rw [hk] at HK
  have HT : Hid (totSt S ≤ 4000000) := Lib.hid (by omega)
  have HC := Lib.hid (fun W (h : Below w.heap.size w W) => spec_copy _ _ _ _ _ _ _ S HT.out W (hr.below h))
  have hfb : (S.fault != 0) = true := by simpa using hf
  clear hr hk hs hf
  go_enter Tryz.func11, Tryz.ntmps11
  go_wp2_with fail
  refine (HK.out _ B0.out).mono ?_
  rintro e w1 ⟨rfl, hb1⟩
  have sz1 : w.heap.size + 2 ≤ w1.heap.size := by have := hb1.size; rw [HZ0.out] at this; exact this
  have HB1 : Hid (Below w.heap.size w w1) := Lib.hid (B0.out.trans (hb1.mono B0.out.size))
  have KP1 := Lib.hid (KP.out.below hb1 KP.out.lt)
  have KR1 := Lib.hid (KR.out.below hb1 KR.out.lt)
  obtain ⟨p0, p1, p2, p3, p4, p5, p6, p7, p8, p9⟩ := st_cells KP1.out
  obtain ⟨r0, r1, r2, r3, r4, r5, r6, r7, r8, r9⟩ := st_cells KR1.out
  have lp : w.heap.size < w1.heap.size := KP1.out.lt
  have lr : w.heap.size + 1 < w1.heap.size := KR1.out.lt
  have fp := KP1.out.frozen
  have fr := KR1.out.frozen
  clear hb1 KP KR B0 HZ0 HK
  go_wp2_with fail
  refine (HC.out _ HB1.out).mono ?_
  rintro e w2 ⟨v0, v1, v2, v3, v4, v5, v6, rfl, ho, hb2⟩
  have sz2 : w1.heap.size ≤ w2.heap.size := by have := hb2.size; first | exact this | (simp at this; omega)
  have hfo := ho.form (S := S) HT.out
  obtain ⟨⟨C0, c0, rfl⟩, ⟨C1, c1, rfl⟩, ⟨C2, c2, rfl⟩, ⟨C3, c3, rfl⟩, ⟨C4, c4, rfl⟩, ⟨C5, c5, rfl⟩, ⟨C6, c6, rfl⟩⟩ := hfo
  have HB2 := Lib.hid (HB1.out.trans (hb2.mono HB1.out.size))
  have kr2 := KR1.out.below hb2 KR1.out.lt
  have HO := Lib.hid ho
  have KR2 := Lib.hid kr2
  clear p0 p1 p2 p3 p4 p5 p6 p7 p8 p9 r0 r1 r2 r3 r4 r5 r6 r7 r8 r9 lp lr fp fr hb2 ho kr2 KP1 KR1 HC
  obtain ⟨r0, r1, r2, r3, r4, r5, r6, r7, r8, r9⟩ := st_cells KR2.out
  have fr := KR2.out.frozen
  go_wp2_with fail
  have kr := KR2.out
  show bodyPost _ _ _ _ _ (putSt w2 (w.heap.size + 1) (.slice C0 S.data.length c0) (.slice C1 S.ret.length c1) (.int .i32 S.a) (.slice C2 S.mem.length c2) (.slice C3 S.cells.length c3) (.slice C4 S.vars.length c4) (.slice C5 S.out.length c5) (.slice C6 S.inp.length c6) (.int .i64 S.fault) (.int .i64 S.fuel))
  have y1 := putSt_blk kr (.slice C0 S.data.length c0) (.slice C1 S.ret.length c1) (.int .i32 S.a) (.slice C2 S.mem.length c2) (.slice C3 S.cells.length c3) (.slice C4 S.vars.length c4) (.slice C5 S.out.length c5) (.slice C6 S.inp.length c6) (.int .i64 S.fault) (.int .i64 S.fuel)
  have y2 := (HB2.out).grown (putSt_only w2 (w.heap.size + 1) (.slice C0 S.data.length c0) (.slice C1 S.ret.length c1) (.int .i32 S.a) (.slice C2 S.mem.length c2) (.slice C3 S.cells.length c3) (.slice C4 S.vars.length c4) (.slice C5 S.out.length c5) (.slice C6 S.inp.length c6) (.int .i64 S.fault) (.int .i64 S.fuel)) (HB2.out).size (fun k hk => by injection hk with hk; omega)
  have y3 := OwnSt.setSt HO.out (g := w.heap.size + 1) (.inl (by omega)) (.slice C0 S.data.length c0) (.slice C1 S.ret.length c1) (.int .i32 S.a) (.slice C2 S.mem.length c2) (.slice C3 S.cells.length c3) (.slice C4 S.vars.length c4) (.slice C5 S.out.length c5) (.slice C6 S.inp.length c6) (.int .i64 S.fault) (.int .i64 S.fuel)
  have y4 := putSt_size w2 (w.heap.size + 1) (.slice C0 S.data.length c0) (.slice C1 S.ret.length c1) (.int .i32 S.a) (.slice C2 S.mem.length c2) (.slice C3 S.cells.length c3) (.slice C4 S.vars.length c4) (.slice C5 S.out.length c5) (.slice C6 S.inp.length c6) (.int .i64 S.fault) (.int .i64 S.fuel)
  generalize putSt w2 (w.heap.size + 1) (.slice C0 S.data.length c0) (.slice C1 S.ret.length c1) (.int .i32 S.a) (.slice C2 S.mem.length c2) (.slice C3 S.cells.length c3) (.slice C4 S.vars.length c4) (.slice C5 S.out.length c5) (.slice C6 S.inp.length c6) (.int .i64 S.fault) (.int .i64 S.fuel) = W at y1 y2 y3 y4 ⊢
  obtain ⟨z0, z1, z2, z3, z4, z5, z6, z7, z8, z9⟩ := st_cells y1
  exact bodyPost_ret (v := .agg #[.slice C0 S.data.length c0, .slice C1 S.ret.length c1, .int .i32 S.a, .slice C2 S.mem.length c2, .slice C3 S.cells.length c3, .slice C4 S.vars.length c4, .slice C5 S.out.length c5, .slice C6 S.inp.length c6, .int .i64 S.fault, .int .i64 S.fuel]) (by simp [results, Tryz.results11, z0, z1, z2, z3, z4, z5, z6, z7, z8, z9, go_sem]) rfl (newst_of y3 (by omega) (by first | (rw [y4]; simp; done) | (rw [y4]; simp; omega) | omega) y2)
set_option maxRecDepth 100000 in
set_option maxHeartbeats 3000000 in
theorem sdo_none (d r m c v o i : Value) (S : S8) (k : Int) (hk : ¬ (0 ≤ k ∧ k ≤ 23)) (hs : totSt S ≤ 2500000) (w : World) (hr : RdSt w d r m c v o i S) (hok : Ok8 S) (hf : S.fault = 0) :
    Calls Tryz.prog 11 #[.agg #[d, r, .int .i32 S.a, m, c, v, o, i, .int .i64 S.fault, .int .i64 S.fuel], .int .i64 k] w (NewSt w { S with fault := 1 }) := by
  have hform := hr.form
  obtain ⟨⟨A0, a0, rfl⟩, ⟨A1, a1, rfl⟩, ⟨A2, a2, rfl⟩, ⟨A3, a3, rfl⟩, ⟨A4, a4, rfl⟩, ⟨A5, a5, rfl⟩, ⟨A6, a6, rfl⟩⟩ := hform
  have e1 : (w.alloc (.cells #[.slice A0 S.data.length a0, .slice A1 S.ret.length a1, .int .i32 S.a, .slice A2 S.mem.length a2, .slice A3 S.cells.length a3, .slice A4 S.vars.length a4, .slice A5 S.out.length a5, .slice A6 S.inp.length a6, .int .i64 S.fault, .int .i64 S.fuel] 29)).heap.size = w.heap.size + 1 := by simp
  have KP := Lib.hid (((Blk.new w 29 #[.slice A0 S.data.length a0, .slice A1 S.ret.length a1, .int .i32 S.a, .slice A2 S.mem.length a2, .slice A3 S.cells.length a3, .slice A4 S.vars.length a4, .slice A5 S.out.length a5, .slice A6 S.inp.length a6, .int .i64 S.fault, .int .i64 S.fuel]).alloc (.cells #[.slice none 0 0, .slice none 0 0, .int .i32 0, .slice none 0 0, .slice none 0 0, .slice none 0 0, .slice none 0 0, .slice none 0 0, .int .i64 0, .int .i64 0] 29)))
  have KR : Hid (Blk ((w.alloc (.cells #[.slice A0 S.data.length a0, .slice A1 S.ret.length a1, .int .i32 S.a, .slice A2 S.mem.length a2, .slice A3 S.cells.length a3, .slice A4 S.vars.length a4, .slice A5 S.out.length a5, .slice A6 S.inp.length a6, .int .i64 S.fault, .int .i64 S.fuel] 29)).alloc (.cells #[.slice none 0 0, .slice none 0 0, .int .i32 0, .slice none 0 0, .slice none 0 0, .slice none 0 0, .slice none 0 0, .slice none 0 0, .int .i64 0, .int .i64 0] 29)) (w.heap.size + 1) 29 #[.slice none 0 0, .slice none 0 0, .int .i32 0, .slice none 0 0, .slice none 0 0, .slice none 0 0, .slice none 0 0, .slice none 0 0, .int .i64 0, .int .i64 0]) := Lib.hid (by have := Blk.new (w.alloc (.cells #[.slice A0 S.data.length a0, .slice A1 S.ret.length a1, .int .i32 S.a, .slice A2 S.mem.length a2, .slice A3 S.cells.length a3, .slice A4 S.vars.length a4, .slice A5 S.out.length a5, .slice A6 S.inp.length a6, .int .i64 S.fault, .int .i64 S.fuel] 29)) 29 #[.slice none 0 0, .slice none 0 0, .int .i32 0, .slice none 0 0, .slice none 0 0, .slice none 0 0, .slice none 0 0, .slice none 0 0, .int .i64 0, .int .i64 0]; rw [e1] at this; exact this)
  have B0 : Hid (Below w.heap.size w ((w.alloc (.cells #[.slice A0 S.data.length a0, .slice A1 S.ret.length a1, .int .i32 S.a, .slice A2 S.mem.length a2, .slice A3 S.cells.length a3, .slice A4 S.vars.length a4, .slice A5 S.out.length a5, .slice A6 S.inp.length a6, .int .i64 S.fault, .int .i64 S.fuel] 29)).alloc (.cells #[.slice none 0 0, .slice none 0 0, .int .i32 0, .slice none 0 0, .slice none 0 0, .slice none 0 0, .slice none 0 0, .slice none 0 0, .int .i64 0, .int .i64 0] 29))) := Lib.hid (below_alloc2 w _ _)
  have Z0 : ((w.alloc (.cells #[.slice A0 S.data.length a0, .slice A1 S.ret.length a1, .int .i32 S.a, .slice A2 S.mem.length a2, .slice A3 S.cells.length a3, .slice A4 S.vars.length a4, .slice A5 S.out.length a5, .slice A6 S.inp.length a6, .int .i64 S.fault, .int .i64 S.fuel] 29)).alloc (.cells #[.slice none 0 0, .slice none 0 0, .int .i32 0, .slice none 0 0, .slice none 0 0, .slice none 0 0, .slice none 0 0, .slice none 0 0, .int .i64 0, .int .i64 0] 29)).heap.size = w.heap.size + 2 := by simp
  have HZ0 := Lib.hid Z0
  clear Z0 e1
  have HK := Lib.hid (fun W (h : Below w.heap.size w W) => spec_stok _ _ _ _ _ _ _ S W (hr.below h))
  rw [(ok8_iff S).2 hok] at HK
  have HPN := Lib.hid (fun W => spec_primnameU k W)
  have hfb : (S.fault != 0) = false := by simpa using hf
  have hn : primN k = ⟨#[]⟩ := by unfold primN; rw [if_neg hk]
  rw [hn] at HPN
  have HT : Hid (totSt S ≤ 4000000) := Lib.hid (by omega)
  have HF := Lib.hid (fun W (h : Below w.heap.size w W) => spec_fault _ _ _ _ _ _ _ S 1 HT.out W (hr.below h))
  have HTF : Hid (totSt { S with fault := 1 } ≤ 4000000) := Lib.hid HT.out
  clear hr hs hok hf hk hn
  go_enter Tryz.func11, Tryz.ntmps11
  go_wp2_with fail
  refine (HK.out _ B0.out).mono ?_
  rintro e w1 ⟨rfl, hb1⟩
  have sz1 : w.heap.size + 2 ≤ w1.heap.size := by have := hb1.size; rw [HZ0.out] at this; exact this
  have HB1 : Hid (Below w.heap.size w w1) := Lib.hid (B0.out.trans (hb1.mono B0.out.size))
  have KP1 := Lib.hid (KP.out.below hb1 KP.out.lt)
  have KR1 := Lib.hid (KR.out.below hb1 KR.out.lt)
  clear hb1 KP KR B0 HZ0
  obtain ⟨p0, p1, p2, p3, p4, p5, p6, p7, p8, p9⟩ := st_cells KP1.out
  obtain ⟨r0, r1, r2, r3, r4, r5, r6, r7, r8, r9⟩ := st_cells KR1.out
  have lp : w.heap.size < w1.heap.size := KP1.out.lt
  have lr : w.heap.size + 1 < w1.heap.size := KR1.out.lt
  have fp := KP1.out.frozen
  have fr := KR1.out.frozen
  go_wp2_with fail
  refine (HPN.out _).mono ?_
  rintro e w2 ⟨rfl, hb2⟩
  have sz2 : w.heap.size + 2 ≤ w2.heap.size := Nat.le_trans sz1 hb2.size
  have HB2 : Hid (Below w.heap.size w w2) := Lib.hid (HB1.out.trans (hb2.mono HB1.out.size))
  have KP2 := Lib.hid (KP1.out.below hb2 KP1.out.lt)
  have KR2 := Lib.hid (KR1.out.below hb2 KR1.out.lt)
  clear hb2 p0 p1 p2 p3 p4 p5 p6 p7 p8 p9 r0 r1 r2 r3 r4 r5 r6 r7 r8 r9 lp lr fp fr KP1 KR1 HB1
  obtain ⟨p0, p1, p2, p3, p4, p5, p6, p7, p8, p9⟩ := st_cells KP2.out
  obtain ⟨r0, r1, r2, r3, r4, r5, r6, r7, r8, r9⟩ := st_cells KR2.out
  have lp : w.heap.size < w2.heap.size := KP2.out.lt
  have lr : w.heap.size + 1 < w2.heap.size := KR2.out.lt
  have fp := KP2.out.frozen
  have fr := KR2.out.frozen
  go_wp2_with fail
  refine (HF.out _ HB2.out).mono ?_
  rintro e w3 ⟨v0, v1, v2, v3, v4, v5, v6, rfl, ho, hb3⟩
  have sz3 : w.heap.size + 2 ≤ w3.heap.size := by have := hb3.size; first | omega | (rw [World.size_alloc] at this; omega)
  have HB3 : Hid (Below w.heap.size w w3) := Lib.hid (HB2.out.trans (hb3.mono HB2.out.size))
  have KR3 := Lib.hid ((KR2.out).below hb3 (KR2.out).lt)
  have HO3 := Lib.hid (ho.mono (l2 := w.heap.size + 2) (h2 := w3.heap.size) (by first | omega | (rw [World.size_alloc]; omega)) (Nat.le_refl _))
  obtain ⟨⟨C0, c0, rfl⟩, ⟨C1, c1, rfl⟩, ⟨C2, c2, rfl⟩, ⟨C3, c3, rfl⟩, ⟨C4, c4, rfl⟩, ⟨C5, c5, rfl⟩, ⟨C6, c6, rfl⟩⟩ := ho.form (S := { S with fault := 1 }) HTF.out
  clear ho hb3 p0 p1 p2 p3 p4 p5 p6 p7 p8 p9 r0 r1 r2 r3 r4 r5 r6 r7 r8 r9 lp lr fp fr KP2 KR2 HB2
  obtain ⟨r0, r1, r2, r3, r4, r5, r6, r7, r8, r9⟩ := st_cells KR3.out
  have lr : w.heap.size + 1 < w3.heap.size := KR3.out.lt
  have fr := KR3.out.frozen
  go_wp2_with fail
  have kr := KR3.out
  show bodyPost _ _ _ _ _ (putSt w3 (w.heap.size + 1) (.slice C0 S.data.length c0) (.slice C1 S.ret.length c1) (.int .i32 S.a) (.slice C2 S.mem.length c2) (.slice C3 S.cells.length c3) (.slice C4 S.vars.length c4) (.slice C5 S.out.length c5) (.slice C6 S.inp.length c6) (.int .i64 1) (.int .i64 S.fuel))
  have y1 := putSt_blk kr (.slice C0 S.data.length c0) (.slice C1 S.ret.length c1) (.int .i32 S.a) (.slice C2 S.mem.length c2) (.slice C3 S.cells.length c3) (.slice C4 S.vars.length c4) (.slice C5 S.out.length c5) (.slice C6 S.inp.length c6) (.int .i64 1) (.int .i64 S.fuel)
  have y2 := (HB3.out).grown (putSt_only w3 (w.heap.size + 1) (.slice C0 S.data.length c0) (.slice C1 S.ret.length c1) (.int .i32 S.a) (.slice C2 S.mem.length c2) (.slice C3 S.cells.length c3) (.slice C4 S.vars.length c4) (.slice C5 S.out.length c5) (.slice C6 S.inp.length c6) (.int .i64 1) (.int .i64 S.fuel)) (HB3.out).size (fun k hk => by injection hk with hk; omega)
  have y3 := OwnSt.setSt HO3.out (g := w.heap.size + 1) (.inl (by omega)) (.slice C0 S.data.length c0) (.slice C1 S.ret.length c1) (.int .i32 S.a) (.slice C2 S.mem.length c2) (.slice C3 S.cells.length c3) (.slice C4 S.vars.length c4) (.slice C5 S.out.length c5) (.slice C6 S.inp.length c6) (.int .i64 1) (.int .i64 S.fuel)
  have y4 := putSt_size w3 (w.heap.size + 1) (.slice C0 S.data.length c0) (.slice C1 S.ret.length c1) (.int .i32 S.a) (.slice C2 S.mem.length c2) (.slice C3 S.cells.length c3) (.slice C4 S.vars.length c4) (.slice C5 S.out.length c5) (.slice C6 S.inp.length c6) (.int .i64 1) (.int .i64 S.fuel)
  generalize putSt w3 (w.heap.size + 1) (.slice C0 S.data.length c0) (.slice C1 S.ret.length c1) (.int .i32 S.a) (.slice C2 S.mem.length c2) (.slice C3 S.cells.length c3) (.slice C4 S.vars.length c4) (.slice C5 S.out.length c5) (.slice C6 S.inp.length c6) (.int .i64 1) (.int .i64 S.fuel) = W at y1 y2 y3 y4 ⊢
  obtain ⟨z0, z1, z2, z3, z4, z5, z6, z7, z8, z9⟩ := st_cells y1
  exact bodyPost_ret (v := .agg #[.slice C0 S.data.length c0, .slice C1 S.ret.length c1, .int .i32 S.a, .slice C2 S.mem.length c2, .slice C3 S.cells.length c3, .slice C4 S.vars.length c4, .slice C5 S.out.length c5, .slice C6 S.inp.length c6, .int .i64 1, .int .i64 S.fuel]) (by simp [results, Tryz.results11, z0, z1, z2, z3, z4, z5, z6, z7, z8, z9, go_sem]) rfl (newst_of y3 (by omega) (by first | (rw [y4]; simp; done) | (rw [y4]; simp; omega) | omega) y2)
set_option maxRecDepth 100000 in
set_option maxHeartbeats 3000000 in
theorem sdo_few (d r m c v o i : Value) (S : S8) (k : Nat) (hk : k < 24) (hs : totSt S ≤ 2500000) (w : World) (hr : RdSt w d r m c v o i S) (hok : Ok8 S) (hf : S.fault = 0) (hfew : S.data.length < takes8 k) :
    Calls Tryz.prog 11 #[.agg #[d, r, .int .i32 S.a, m, c, v, o, i, .int .i64 S.fault, .int .i64 S.fuel], .int .i64 (k : Int)] w (NewSt w { S with fault := 2 }) := by
  have hform := hr.form
  obtain ⟨⟨A0, a0, rfl⟩, ⟨A1, a1, rfl⟩, ⟨A2, a2, rfl⟩, ⟨A3, a3, rfl⟩, ⟨A4, a4, rfl⟩, ⟨A5, a5, rfl⟩, ⟨A6, a6, rfl⟩⟩ := hform
  have e1 : (w.alloc (.cells #[.slice A0 S.data.length a0, .slice A1 S.ret.length a1, .int .i32 S.a, .slice A2 S.mem.length a2, .slice A3 S.cells.length a3, .slice A4 S.vars.length a4, .slice A5 S.out.length a5, .slice A6 S.inp.length a6, .int .i64 S.fault, .int .i64 S.fuel] 29)).heap.size = w.heap.size + 1 := by simp
  have KP := Lib.hid (((Blk.new w 29 #[.slice A0 S.data.length a0, .slice A1 S.ret.length a1, .int .i32 S.a, .slice A2 S.mem.length a2, .slice A3 S.cells.length a3, .slice A4 S.vars.length a4, .slice A5 S.out.length a5, .slice A6 S.inp.length a6, .int .i64 S.fault, .int .i64 S.fuel]).alloc (.cells #[.slice none 0 0, .slice none 0 0, .int .i32 0, .slice none 0 0, .slice none 0 0, .slice none 0 0, .slice none 0 0, .slice none 0 0, .int .i64 0, .int .i64 0] 29)))
  have KR : Hid (Blk ((w.alloc (.cells #[.slice A0 S.data.length a0, .slice A1 S.ret.length a1, .int .i32 S.a, .slice A2 S.mem.length a2, .slice A3 S.cells.length a3, .slice A4 S.vars.length a4, .slice A5 S.out.length a5, .slice A6 S.inp.length a6, .int .i64 S.fault, .int .i64 S.fuel] 29)).alloc (.cells #[.slice none 0 0, .slice none 0 0, .int .i32 0, .slice none 0 0, .slice none 0 0, .slice none 0 0, .slice none 0 0, .slice none 0 0, .int .i64 0, .int .i64 0] 29)) (w.heap.size + 1) 29 #[.slice none 0 0, .slice none 0 0, .int .i32 0, .slice none 0 0, .slice none 0 0, .slice none 0 0, .slice none 0 0, .slice none 0 0, .int .i64 0, .int .i64 0]) := Lib.hid (by have := Blk.new (w.alloc (.cells #[.slice A0 S.data.length a0, .slice A1 S.ret.length a1, .int .i32 S.a, .slice A2 S.mem.length a2, .slice A3 S.cells.length a3, .slice A4 S.vars.length a4, .slice A5 S.out.length a5, .slice A6 S.inp.length a6, .int .i64 S.fault, .int .i64 S.fuel] 29)) 29 #[.slice none 0 0, .slice none 0 0, .int .i32 0, .slice none 0 0, .slice none 0 0, .slice none 0 0, .slice none 0 0, .slice none 0 0, .int .i64 0, .int .i64 0]; rw [e1] at this; exact this)
  have B0 : Hid (Below w.heap.size w ((w.alloc (.cells #[.slice A0 S.data.length a0, .slice A1 S.ret.length a1, .int .i32 S.a, .slice A2 S.mem.length a2, .slice A3 S.cells.length a3, .slice A4 S.vars.length a4, .slice A5 S.out.length a5, .slice A6 S.inp.length a6, .int .i64 S.fault, .int .i64 S.fuel] 29)).alloc (.cells #[.slice none 0 0, .slice none 0 0, .int .i32 0, .slice none 0 0, .slice none 0 0, .slice none 0 0, .slice none 0 0, .slice none 0 0, .int .i64 0, .int .i64 0] 29))) := Lib.hid (below_alloc2 w _ _)
  have Z0 : ((w.alloc (.cells #[.slice A0 S.data.length a0, .slice A1 S.ret.length a1, .int .i32 S.a, .slice A2 S.mem.length a2, .slice A3 S.cells.length a3, .slice A4 S.vars.length a4, .slice A5 S.out.length a5, .slice A6 S.inp.length a6, .int .i64 S.fault, .int .i64 S.fuel] 29)).alloc (.cells #[.slice none 0 0, .slice none 0 0, .int .i32 0, .slice none 0 0, .slice none 0 0, .slice none 0 0, .slice none 0 0, .slice none 0 0, .int .i64 0, .int .i64 0] 29)).heap.size = w.heap.size + 2 := by simp
  have HZ0 := Lib.hid Z0
  clear Z0 e1
  have HK := Lib.hid (fun W (h : Below w.heap.size w W) => spec_stok _ _ _ _ _ _ _ S W (hr.below h))
  rw [(ok8_iff S).2 hok] at HK
  have HPN := Lib.hid (fun W => spec_primnameU (k : Int) W)
  have hfb : (S.fault != 0) = false := by simpa using hf
  have hn : primN (k : Int) = primNames.getD k ⟨#[]⟩ := by unfold primN; rw [if_pos (by omega)]; rfl
  rw [hn] at HPN
  obtain ⟨nm, hnm⟩ : ∃ nm, primNames.getD k ⟨#[]⟩ = nm := ⟨_, rfl⟩
  have hne : nm.toList.isEmpty = false := by rw [← hnm]; exact prim_ne k hk
  have HTK := Lib.hid (fun W => spec_takes k hk W)
  rw [hnm] at HPN HTK
  obtain ⟨t, ht⟩ : ∃ t, takes8 k = t := ⟨_, rfl⟩
  rw [ht] at HTK hfew
  have g1 : (S.data.length : Int) < (t : Int) := by omega
  have HT : Hid (totSt S ≤ 4000000) := Lib.hid (by omega)
  have HF := Lib.hid (fun W (h : Below w.heap.size w W) => spec_fault _ _ _ _ _ _ _ S 2 HT.out W (hr.below h))
  have HTF : Hid (totSt { S with fault := 2 } ≤ 4000000) := Lib.hid HT.out
  clear hr hs hok hf hk hn hnm hfew ht
  go_enter Tryz.func11, Tryz.ntmps11
  go_wp2_with fail
  refine (HK.out _ B0.out).mono ?_
  rintro e w1 ⟨rfl, hb1⟩
  have sz1 : w.heap.size + 2 ≤ w1.heap.size := by have := hb1.size; rw [HZ0.out] at this; exact this
  have HB1 : Hid (Below w.heap.size w w1) := Lib.hid (B0.out.trans (hb1.mono B0.out.size))
  have KP1 := Lib.hid (KP.out.below hb1 KP.out.lt)
  have KR1 := Lib.hid (KR.out.below hb1 KR.out.lt)
  clear hb1 KP KR B0 HZ0
  obtain ⟨p0, p1, p2, p3, p4, p5, p6, p7, p8, p9⟩ := st_cells KP1.out
  obtain ⟨r0, r1, r2, r3, r4, r5, r6, r7, r8, r9⟩ := st_cells KR1.out
  have lp : w.heap.size < w1.heap.size := KP1.out.lt
  have lr : w.heap.size + 1 < w1.heap.size := KR1.out.lt
  have fp := KP1.out.frozen
  have fr := KR1.out.frozen
  go_wp2_with fail
  refine (HPN.out _).mono ?_
  rintro e w2 ⟨rfl, hb2⟩
  have sz2 : w.heap.size + 2 ≤ w2.heap.size := Nat.le_trans sz1 hb2.size
  have HB2 : Hid (Below w.heap.size w w2) := Lib.hid (HB1.out.trans (hb2.mono HB1.out.size))
  have KP2 := Lib.hid (KP1.out.below hb2 KP1.out.lt)
  have KR2 := Lib.hid (KR1.out.below hb2 KR1.out.lt)
  clear hb2 p0 p1 p2 p3 p4 p5 p6 p7 p8 p9 r0 r1 r2 r3 r4 r5 r6 r7 r8 r9 lp lr fp fr KP1 KR1 HB1
  obtain ⟨p0, p1, p2, p3, p4, p5, p6, p7, p8, p9⟩ := st_cells KP2.out
  obtain ⟨r0, r1, r2, r3, r4, r5, r6, r7, r8, r9⟩ := st_cells KR2.out
  have lp : w.heap.size < w2.heap.size := KP2.out.lt
  have lr : w.heap.size + 1 < w2.heap.size := KR2.out.lt
  have fp := KP2.out.frozen
  have fr := KR2.out.frozen
  go_wp2_with fail
  go_quiet (exact Calls.quiet_of_same ((HTK.out _).mono fun e w' h => ⟨h.1, h.2.symm⟩))
  have hq := below_drewN (Below.refl w2.heap.size w2) nq
  have sz3 : w.heap.size + 2 ≤ (w2.drewN nq).heap.size := Nat.le_trans sz2 hq.size
  have HB3 : Hid (Below w.heap.size w (w2.drewN nq)) := Lib.hid (HB2.out.trans (hq.mono HB2.out.size))
  have KP3 := Lib.hid (KP2.out.below hq KP2.out.lt)
  have KR3 := Lib.hid (KR2.out.below hq KR2.out.lt)
  clear hq p0 p1 p2 p3 p4 p5 p6 p7 p8 p9 r0 r1 r2 r3 r4 r5 r6 r7 r8 r9 lp lr fp fr KP2 KR2 HB2
  generalize w2.drewN nq = w3 at sz3 HB3 KP3 KR3 ⊢
  obtain ⟨p0, p1, p2, p3, p4, p5, p6, p7, p8, p9⟩ := st_cells KP3.out
  obtain ⟨r0, r1, r2, r3, r4, r5, r6, r7, r8, r9⟩ := st_cells KR3.out
  have lp : w.heap.size < w3.heap.size := KP3.out.lt
  have lr : w.heap.size + 1 < w3.heap.size := KR3.out.lt
  have fp := KP3.out.frozen
  have fr := KR3.out.frozen
  go_wp2_with fail
  refine (HF.out _ HB3.out).mono ?_
  rintro e w4 ⟨v0, v1, v2, v3, v4, v5, v6, rfl, ho, hb4⟩
  have sz4 : w.heap.size + 2 ≤ w4.heap.size := by have := hb4.size; first | omega | (rw [World.size_alloc] at this; omega)
  have HB4 : Hid (Below w.heap.size w w4) := Lib.hid (HB3.out.trans (hb4.mono HB3.out.size))
  have KR4 := Lib.hid ((KR3.out).below hb4 (KR3.out).lt)
  have HO4 := Lib.hid (ho.mono (l2 := w.heap.size + 2) (h2 := w4.heap.size) (by first | omega | (rw [World.size_alloc]; omega)) (Nat.le_refl _))
  obtain ⟨⟨C0, c0, rfl⟩, ⟨C1, c1, rfl⟩, ⟨C2, c2, rfl⟩, ⟨C3, c3, rfl⟩, ⟨C4, c4, rfl⟩, ⟨C5, c5, rfl⟩, ⟨C6, c6, rfl⟩⟩ := ho.form (S := { S with fault := 2 }) HTF.out
  clear ho hb4 p0 p1 p2 p3 p4 p5 p6 p7 p8 p9 r0 r1 r2 r3 r4 r5 r6 r7 r8 r9 lp lr fp fr KP3 KR3 HB3
  obtain ⟨r0, r1, r2, r3, r4, r5, r6, r7, r8, r9⟩ := st_cells KR4.out
  have lr : w.heap.size + 1 < w4.heap.size := KR4.out.lt
  have fr := KR4.out.frozen
  go_wp2_with fail
  have kr := KR4.out
  show bodyPost _ _ _ _ _ (putSt w4 (w.heap.size + 1) (.slice C0 S.data.length c0) (.slice C1 S.ret.length c1) (.int .i32 S.a) (.slice C2 S.mem.length c2) (.slice C3 S.cells.length c3) (.slice C4 S.vars.length c4) (.slice C5 S.out.length c5) (.slice C6 S.inp.length c6) (.int .i64 2) (.int .i64 S.fuel))
  have y1 := putSt_blk kr (.slice C0 S.data.length c0) (.slice C1 S.ret.length c1) (.int .i32 S.a) (.slice C2 S.mem.length c2) (.slice C3 S.cells.length c3) (.slice C4 S.vars.length c4) (.slice C5 S.out.length c5) (.slice C6 S.inp.length c6) (.int .i64 2) (.int .i64 S.fuel)
  have y2 := (HB4.out).grown (putSt_only w4 (w.heap.size + 1) (.slice C0 S.data.length c0) (.slice C1 S.ret.length c1) (.int .i32 S.a) (.slice C2 S.mem.length c2) (.slice C3 S.cells.length c3) (.slice C4 S.vars.length c4) (.slice C5 S.out.length c5) (.slice C6 S.inp.length c6) (.int .i64 2) (.int .i64 S.fuel)) (HB4.out).size (fun k hk => by injection hk with hk; omega)
  have y3 := OwnSt.setSt HO4.out (g := w.heap.size + 1) (.inl (by omega)) (.slice C0 S.data.length c0) (.slice C1 S.ret.length c1) (.int .i32 S.a) (.slice C2 S.mem.length c2) (.slice C3 S.cells.length c3) (.slice C4 S.vars.length c4) (.slice C5 S.out.length c5) (.slice C6 S.inp.length c6) (.int .i64 2) (.int .i64 S.fuel)
  have y4 := putSt_size w4 (w.heap.size + 1) (.slice C0 S.data.length c0) (.slice C1 S.ret.length c1) (.int .i32 S.a) (.slice C2 S.mem.length c2) (.slice C3 S.cells.length c3) (.slice C4 S.vars.length c4) (.slice C5 S.out.length c5) (.slice C6 S.inp.length c6) (.int .i64 2) (.int .i64 S.fuel)
  generalize putSt w4 (w.heap.size + 1) (.slice C0 S.data.length c0) (.slice C1 S.ret.length c1) (.int .i32 S.a) (.slice C2 S.mem.length c2) (.slice C3 S.cells.length c3) (.slice C4 S.vars.length c4) (.slice C5 S.out.length c5) (.slice C6 S.inp.length c6) (.int .i64 2) (.int .i64 S.fuel) = W at y1 y2 y3 y4 ⊢
  obtain ⟨z0, z1, z2, z3, z4, z5, z6, z7, z8, z9⟩ := st_cells y1
  exact bodyPost_ret (v := .agg #[.slice C0 S.data.length c0, .slice C1 S.ret.length c1, .int .i32 S.a, .slice C2 S.mem.length c2, .slice C3 S.cells.length c3, .slice C4 S.vars.length c4, .slice C5 S.out.length c5, .slice C6 S.inp.length c6, .int .i64 2, .int .i64 S.fuel]) (by simp [results, Tryz.results11, z0, z1, z2, z3, z4, z5, z6, z7, z8, z9, go_sem]) rfl (newst_of y3 (by omega) (by first | (rw [y4]; simp; done) | (rw [y4]; simp; omega) | omega) y2)
end Go.Proofs.YtdiaiflleiebfaaGreatDoor
