/-
  Level, on both sides.
-/
import Derived.Test.YtlkkobffgbjkpaaSpecStOk
import Derived.Test.YtlkkobffgbjkpaaImplStOk
import Derived.Test.YtlkkobffgbjkpaaSpecCopy
import Derived.Test.YtlkkobffgbjkpaaOwnSt
import Derived.Test.YtlkkobffgbjkpaaPutTot
import Derived.Deep.Cut
import Derived.Deep.Cut
namespace Go.Proofs.Ytlkkobffgbjkpaa
open Go.RowKit Go

def lvl (s : Int × Int) : Int × Int := if s.1 = 2 then (s.1, 0) else s
/-- Slots made level as far as i. -/
def levR (i : Nat) (xs : List (Int × Int)) : List (Int × Int) := (xs.take i).map lvl ++ xs.drop i
theorem levR_len (i : Nat) (xs : List (Int × Int)) : (levR i xs).length = xs.length := by simp [levR]; omega
theorem levR_zero (xs : List (Int × Int)) : levR 0 xs = xs := by simp [levR]
theorem levR_all (xs : List (Int × Int)) : levR xs.length xs = xs.map lvl := by simp [levR]
theorem levR_get {i : Nat} {xs : List (Int × Int)} (h : i < xs.length) (h2 : i < (levR i xs).length) : (levR i xs)[i] = xs[i] := by
  have e : (levR i xs)[i]? = xs[i]? := by
    unfold levR
    rw [List.getElem?_append_right (by simp; omega)]
    simp only [List.length_map, List.length_take, List.getElem?_drop]
    congr 1
    omega
  rw [List.getElem?_eq_getElem h2, List.getElem?_eq_getElem h] at e
  exact Option.some.inj e
theorem levR_succ {i : Nat} {xs : List (Int × Int)} (h : i < xs.length) : levR (i + 1) xs = (levR i xs).set i (lvl xs[i]) := by
  unfold levR
  rw [List.set_append_right _ _ (by simp; omega), List.length_map, List.length_take, show i - min i xs.length = 0 by omega, List.drop_eq_getElem_cons h, List.set_cons_zero, ← List.take_append_getElem h, List.map_append]
  simp
theorem levR_same {i : Nat} {xs : List (Int × Int)} (h : i < xs.length) (hk : (xs[i]).1 ≠ 2) : levR (i + 1) xs = levR i xs := by
  rw [levR_succ h, show lvl xs[i] = xs[i] by unfold lvl; rw [if_neg hk]]
  have h2 : i < (levR i xs).length := by rw [levR_len]; exact h
  have := levR_get h h2
  rw [← this, List.set_getElem_self]
/-- A state with its slots level as far as i. -/
def levS (i : Nat) (S : S8) : S8 := { S with ret := levR i S.ret }
/-- What Level tells. -/
def level8 (S : S8) : S8 := if ok8 S = true then { S with ret := S.ret.map lvl } else zero8
theorem level8_tot (S : S8) (h : totSt S ≤ 2500000) : totSt (level8 S) ≤ 4000000 := by
  unfold level8
  split
  · unfold totSt at h ⊢
    simp only [List.length_map]
    omega
  · unfold totSt zero8
    simp
section
variable {w w' : World} {lo hi : Nat} {d r m c v o i : Value} {S : S8}
theorem OwnSt.ret2 (h : OwnSt w lo hi d r m c v o i S) {l : List (Int × Int)} (hd : w'.ownsRow lo 109 2 r l.length (slv l)) (hg : w.grownBy w' r.ownBlock) : OwnSt w' lo hi d r m c v o i { S with ret := l } := by
  have K : ∀ {e : TypeId} {size n : Nat} {x : Value} {xs : List Value}, w.ownsRow lo e size x n xs → (x.ownBlock = none ∨ x.ownBlock ≠ r.ownBlock) → w'.ownsRow lo e size x n xs := fun ho hne => ho.kept hg hne
  exact ⟨h.top, h.dm, h.oi, K h.d (rows_ne h.d h.r (by decide)), hd, K h.m (rows_ne h.m h.r (by decide)), K h.c (rows_ne h.c h.r (by decide)), K h.v (rows_ne h.v h.r (by decide)), K h.o (rows_ne h.o h.r (by decide)), h.i.kept hg (tail_ne h.i h.r (by decide))⟩
end
set_option maxRecDepth 100000 in
set_option maxHeartbeats 2500000 in
theorem slevel_no (d r m c v o i : Value) (S : S8) (_hs : totSt S ≤ 2500000) (w : World) (hr : RdSt w d r m c v o i S) (hk : ok8 S = false) :
    Calls Try.prog 35 #[.agg #[d, r, .int .i32 S.a, m, c, v, o, i, .int .i64 S.fault, .int .i64 S.fuel]] w (NewSt w (zero8)) := by
  have hform := hr.form
  obtain ⟨⟨A0, a0, rfl⟩, ⟨A1, a1, rfl⟩, ⟨A2, a2, rfl⟩, ⟨A3, a3, rfl⟩, ⟨A4, a4, rfl⟩, ⟨A5, a5, rfl⟩, ⟨A6, a6, rfl⟩⟩ := hform
  have e1 : (w.alloc (.cells #[.slice A0 S.data.length a0, .slice A1 S.ret.length a1, .int .i32 S.a, .slice A2 S.mem.length a2, .slice A3 S.cells.length a3, .slice A4 S.vars.length a4, .slice A5 S.out.length a5, .slice A6 S.inp.length a6, .int .i64 S.fault, .int .i64 S.fuel] 59)).heap.size = w.heap.size + 1 := by simp
  have KP := Lib.hid (((Blk.new w 59 #[.slice A0 S.data.length a0, .slice A1 S.ret.length a1, .int .i32 S.a, .slice A2 S.mem.length a2, .slice A3 S.cells.length a3, .slice A4 S.vars.length a4, .slice A5 S.out.length a5, .slice A6 S.inp.length a6, .int .i64 S.fault, .int .i64 S.fuel]).alloc (.cells #[.slice none 0 0, .slice none 0 0, .int .i32 0, .slice none 0 0, .slice none 0 0, .slice none 0 0, .slice none 0 0, .slice none 0 0, .int .i64 0, .int .i64 0] 59)))
  have KR : Hid (Blk ((w.alloc (.cells #[.slice A0 S.data.length a0, .slice A1 S.ret.length a1, .int .i32 S.a, .slice A2 S.mem.length a2, .slice A3 S.cells.length a3, .slice A4 S.vars.length a4, .slice A5 S.out.length a5, .slice A6 S.inp.length a6, .int .i64 S.fault, .int .i64 S.fuel] 59)).alloc (.cells #[.slice none 0 0, .slice none 0 0, .int .i32 0, .slice none 0 0, .slice none 0 0, .slice none 0 0, .slice none 0 0, .slice none 0 0, .int .i64 0, .int .i64 0] 59)) (w.heap.size + 1) 59 #[.slice none 0 0, .slice none 0 0, .int .i32 0, .slice none 0 0, .slice none 0 0, .slice none 0 0, .slice none 0 0, .slice none 0 0, .int .i64 0, .int .i64 0]) := Lib.hid (by have := Blk.new (w.alloc (.cells #[.slice A0 S.data.length a0, .slice A1 S.ret.length a1, .int .i32 S.a, .slice A2 S.mem.length a2, .slice A3 S.cells.length a3, .slice A4 S.vars.length a4, .slice A5 S.out.length a5, .slice A6 S.inp.length a6, .int .i64 S.fault, .int .i64 S.fuel] 59)) 59 #[.slice none 0 0, .slice none 0 0, .int .i32 0, .slice none 0 0, .slice none 0 0, .slice none 0 0, .slice none 0 0, .slice none 0 0, .int .i64 0, .int .i64 0]; rw [e1] at this; exact this)
  have B0 : Hid (Below w.heap.size w ((w.alloc (.cells #[.slice A0 S.data.length a0, .slice A1 S.ret.length a1, .int .i32 S.a, .slice A2 S.mem.length a2, .slice A3 S.cells.length a3, .slice A4 S.vars.length a4, .slice A5 S.out.length a5, .slice A6 S.inp.length a6, .int .i64 S.fault, .int .i64 S.fuel] 59)).alloc (.cells #[.slice none 0 0, .slice none 0 0, .int .i32 0, .slice none 0 0, .slice none 0 0, .slice none 0 0, .slice none 0 0, .slice none 0 0, .int .i64 0, .int .i64 0] 59))) := Lib.hid (below_alloc2 w _ _)
  have Z0 : ((w.alloc (.cells #[.slice A0 S.data.length a0, .slice A1 S.ret.length a1, .int .i32 S.a, .slice A2 S.mem.length a2, .slice A3 S.cells.length a3, .slice A4 S.vars.length a4, .slice A5 S.out.length a5, .slice A6 S.inp.length a6, .int .i64 S.fault, .int .i64 S.fuel] 59)).alloc (.cells #[.slice none 0 0, .slice none 0 0, .int .i32 0, .slice none 0 0, .slice none 0 0, .slice none 0 0, .slice none 0 0, .slice none 0 0, .int .i64 0, .int .i64 0] 59)).heap.size = w.heap.size + 2 := by simp
  have HZ0 := Lib.hid Z0
  clear Z0 e1
  have HK := Lib.hid (fun W (h : Below w.heap.size w W) => spec_stok _ _ _ _ _ _ _ S W (hr.below h))
  rw [hk] at HK
  clear hr hk _hs
  go_enter Try.func35, Try.ntmps35
  go_wp2_with fail
  refine (HK.out _ B0.out).mono ?_
  rintro e w1 ⟨rfl, hb1⟩
  have sz1 : w.heap.size + 2 ≤ w1.heap.size := by have := hb1.size; rw [HZ0.out] at this; exact this
  have HB1 : Hid (Below w.heap.size w w1) := Lib.hid (B0.out.trans (hb1.mono B0.out.size))
  have KP1 := Lib.hid (KP.out.below hb1 KP.out.lt)
  have KR1 := Lib.hid (KR.out.below hb1 KR.out.lt)
  obtain ⟨p0, p1, p2, p3, p4, p5, p6, p7, p8, p9⟩ := st_cells KP1.out
  obtain ⟨r0, r1, r2, r3, r4, r5, r6, r7, r8, r9⟩ := st_cells KR1.out
  have lp : w.heap.size < w1.heap.size := KP1.out.lt
  have lr : w.heap.size + 1 < w1.heap.size := KR1.out.lt
  have fp := KP1.out.frozen
  have fr := KR1.out.frozen
  clear hb1 KP KR B0 HZ0 HK
  go_wp2_with fail
  have kr := KR1.out
  show bodyPost _ _ _ _ _ (putSt w1 (w.heap.size + 1) (.slice none 0 0) (.slice none 0 0) (.int .i32 0) (.slice none 0 0) (.slice none 0 0) (.slice none 0 0) (.slice none 0 0) (.slice none 0 0) (.int .i64 0) (.int .i64 0))
  have y1 := putSt_blk kr (.slice none 0 0) (.slice none 0 0) (.int .i32 0) (.slice none 0 0) (.slice none 0 0) (.slice none 0 0) (.slice none 0 0) (.slice none 0 0) (.int .i64 0) (.int .i64 0)
  have y2 := HB1.out.grown (putSt_only w1 (w.heap.size + 1) (.slice none 0 0) (.slice none 0 0) (.int .i32 0) (.slice none 0 0) (.slice none 0 0) (.slice none 0 0) (.slice none 0 0) (.slice none 0 0) (.int .i64 0) (.int .i64 0)) HB1.out.size (fun k hk => by injection hk with hk; omega)
  generalize putSt w1 (w.heap.size + 1) (.slice none 0 0) (.slice none 0 0) (.int .i32 0) (.slice none 0 0) (.slice none 0 0) (.slice none 0 0) (.slice none 0 0) (.slice none 0 0) (.int .i64 0) (.int .i64 0) = W at y1 y2 ⊢
  obtain ⟨z0, z1, z2, z3, z4, z5, z6, z7, z8, z9⟩ := st_cells y1
  exact bodyPost_ret (v := .agg #[.slice none 0 0, .slice none 0 0, .int .i32 0, .slice none 0 0, .slice none 0 0, .slice none 0 0, .slice none 0 0, .slice none 0 0, .int .i64 0, .int .i64 0]) (by simp [results, Try.results35, z0, z1, z2, z3, z4, z5, z6, z7, z8, z9, go_sem]) rfl (newst_zero y2)
set_option maxRecDepth 100000 in
set_option maxHeartbeats 2500000 in
theorem slevel_yes (d r m c v o i : Value) (S : S8) (hs : totSt S ≤ 2500000) (w : World) (hr : RdSt w d r m c v o i S) (hk : ok8 S = true) :
    Calls Try.prog 35 #[.agg #[d, r, .int .i32 S.a, m, c, v, o, i, .int .i64 S.fault, .int .i64 S.fuel]] w (NewSt w { S with ret := S.ret.map lvl }) := by
  have hform := hr.form
  obtain ⟨⟨A0, a0, rfl⟩, ⟨A1, a1, rfl⟩, ⟨A2, a2, rfl⟩, ⟨A3, a3, rfl⟩, ⟨A4, a4, rfl⟩, ⟨A5, a5, rfl⟩, ⟨A6, a6, rfl⟩⟩ := hform
  have e1 : (w.alloc (.cells #[.slice A0 S.data.length a0, .slice A1 S.ret.length a1, .int .i32 S.a, .slice A2 S.mem.length a2, .slice A3 S.cells.length a3, .slice A4 S.vars.length a4, .slice A5 S.out.length a5, .slice A6 S.inp.length a6, .int .i64 S.fault, .int .i64 S.fuel] 59)).heap.size = w.heap.size + 1 := by simp
  have KP := Lib.hid (((Blk.new w 59 #[.slice A0 S.data.length a0, .slice A1 S.ret.length a1, .int .i32 S.a, .slice A2 S.mem.length a2, .slice A3 S.cells.length a3, .slice A4 S.vars.length a4, .slice A5 S.out.length a5, .slice A6 S.inp.length a6, .int .i64 S.fault, .int .i64 S.fuel]).alloc (.cells #[.slice none 0 0, .slice none 0 0, .int .i32 0, .slice none 0 0, .slice none 0 0, .slice none 0 0, .slice none 0 0, .slice none 0 0, .int .i64 0, .int .i64 0] 59)))
  have KR : Hid (Blk ((w.alloc (.cells #[.slice A0 S.data.length a0, .slice A1 S.ret.length a1, .int .i32 S.a, .slice A2 S.mem.length a2, .slice A3 S.cells.length a3, .slice A4 S.vars.length a4, .slice A5 S.out.length a5, .slice A6 S.inp.length a6, .int .i64 S.fault, .int .i64 S.fuel] 59)).alloc (.cells #[.slice none 0 0, .slice none 0 0, .int .i32 0, .slice none 0 0, .slice none 0 0, .slice none 0 0, .slice none 0 0, .slice none 0 0, .int .i64 0, .int .i64 0] 59)) (w.heap.size + 1) 59 #[.slice none 0 0, .slice none 0 0, .int .i32 0, .slice none 0 0, .slice none 0 0, .slice none 0 0, .slice none 0 0, .slice none 0 0, .int .i64 0, .int .i64 0]) := Lib.hid (by have := Blk.new (w.alloc (.cells #[.slice A0 S.data.length a0, .slice A1 S.ret.length a1, .int .i32 S.a, .slice A2 S.mem.length a2, .slice A3 S.cells.length a3, .slice A4 S.vars.length a4, .slice A5 S.out.length a5, .slice A6 S.inp.length a6, .int .i64 S.fault, .int .i64 S.fuel] 59)) 59 #[.slice none 0 0, .slice none 0 0, .int .i32 0, .slice none 0 0, .slice none 0 0, .slice none 0 0, .slice none 0 0, .slice none 0 0, .int .i64 0, .int .i64 0]; rw [e1] at this; exact this)
  have B0 : Hid (Below w.heap.size w ((w.alloc (.cells #[.slice A0 S.data.length a0, .slice A1 S.ret.length a1, .int .i32 S.a, .slice A2 S.mem.length a2, .slice A3 S.cells.length a3, .slice A4 S.vars.length a4, .slice A5 S.out.length a5, .slice A6 S.inp.length a6, .int .i64 S.fault, .int .i64 S.fuel] 59)).alloc (.cells #[.slice none 0 0, .slice none 0 0, .int .i32 0, .slice none 0 0, .slice none 0 0, .slice none 0 0, .slice none 0 0, .slice none 0 0, .int .i64 0, .int .i64 0] 59))) := Lib.hid (below_alloc2 w _ _)
  have Z0 : ((w.alloc (.cells #[.slice A0 S.data.length a0, .slice A1 S.ret.length a1, .int .i32 S.a, .slice A2 S.mem.length a2, .slice A3 S.cells.length a3, .slice A4 S.vars.length a4, .slice A5 S.out.length a5, .slice A6 S.inp.length a6, .int .i64 S.fault, .int .i64 S.fuel] 59)).alloc (.cells #[.slice none 0 0, .slice none 0 0, .int .i32 0, .slice none 0 0, .slice none 0 0, .slice none 0 0, .slice none 0 0, .slice none 0 0, .int .i64 0, .int .i64 0] 59)).heap.size = w.heap.size + 2 := by simp
  have HZ0 := Lib.hid Z0
  clear Z0 e1
  have HK := Lib.hid (fun W (h : Below w.heap.size w W) => spec_stok _ _ _ _ _ _ _ S W (hr.below h))
  rw [hk] at HK
  have HT : Hid (totSt S ≤ 4000000) := Lib.hid (by omega)
  have HC := Lib.hid (fun W (h : Below w.heap.size w W) => spec_copy _ _ _ _ _ _ _ S HT.out W (hr.below h))
  have HRL := Lib.hid ((ok8_iff S).1 hk).ret
  clear hr hk hs
  go_enter Try.func35, Try.ntmps35
  go_wp2_with fail
  refine (HK.out _ B0.out).mono ?_
  rintro e w1 ⟨rfl, hb1⟩
  have sz1 : w.heap.size + 2 ≤ w1.heap.size := by have := hb1.size; rw [HZ0.out] at this; exact this
  have HB1 : Hid (Below w.heap.size w w1) := Lib.hid (B0.out.trans (hb1.mono B0.out.size))
  have KP1 := Lib.hid (KP.out.below hb1 KP.out.lt)
  have KR1 := Lib.hid (KR.out.below hb1 KR.out.lt)
  obtain ⟨p0, p1, p2, p3, p4, p5, p6, p7, p8, p9⟩ := st_cells KP1.out
  obtain ⟨r0, r1, r2, r3, r4, r5, r6, r7, r8, r9⟩ := st_cells KR1.out
  have lp : w.heap.size < w1.heap.size := KP1.out.lt
  have lr : w.heap.size + 1 < w1.heap.size := KR1.out.lt
  have fp := KP1.out.frozen
  have fr := KR1.out.frozen
  clear hb1 KP KR B0 HZ0 HK
  go_wp2_with fail
  refine (HC.out _ HB1.out).mono ?_
  rintro e w2 ⟨v0, v1, v2, v3, v4, v5, v6, rfl, ho, hb2⟩
  have sz2 : w1.heap.size ≤ w2.heap.size := by have := hb2.size; first | exact this | (simp at this; omega)
  have hfo := ho.form (S := S) HT.out
  obtain ⟨⟨C0, c0, rfl⟩, ⟨C1, c1, rfl⟩, ⟨C2, c2, rfl⟩, ⟨C3, c3, rfl⟩, ⟨C4, c4, rfl⟩, ⟨C5, c5, rfl⟩, ⟨C6, c6, rfl⟩⟩ := hfo
  have HB2 := Lib.hid (HB1.out.trans (hb2.mono HB1.out.size))
  have kr2 := KR1.out.below hb2 KR1.out.lt
  have HO := Lib.hid ho
  have KR2 := Lib.hid kr2
  clear p0 p1 p2 p3 p4 p5 p6 p7 p8 p9 r0 r1 r2 r3 r4 r5 r6 r7 r8 r9 lp lr fp fr hb2 ho kr2 KP1 KR1 HC
  obtain ⟨r0, r1, r2, r3, r4, r5, r6, r7, r8, r9⟩ := st_cells KR2.out
  have fr := KR2.out.frozen
  obtain ⟨LO, hLO⟩ : ∃ z, w1.heap.size = z := ⟨_, rfl⟩
  obtain ⟨HI, hHI⟩ : ∃ z, w2.heap.size = z := ⟨_, rfl⟩
  have HLO : Hid (w.heap.size + 2 ≤ LO) := Lib.hid (by omega)
  have HHI : Hid (HI ≤ w2.heap.size) := Lib.hid (by omega)
  have KB0 := Lib.hid (Blk.new w2 59 #[.slice C0 S.data.length c0, .slice C1 S.ret.length c1, .int .i32 S.a, .slice C2 S.mem.length c2, .slice C3 S.cells.length c3, .slice C4 S.vars.length c4, .slice C5 S.out.length c5, .slice C6 S.inp.length c6, .int .i64 S.fault, .int .i64 S.fuel])
  have KZ0 := Lib.hid (KR2.out.alloc (.cells #[.slice C0 S.data.length c0, .slice C1 S.ret.length c1, .int .i32 S.a, .slice C2 S.mem.length c2, .slice C3 S.cells.length c3, .slice C4 S.vars.length c4, .slice C5 S.out.length c5, .slice C6 S.inp.length c6, .int .i64 S.fault, .int .i64 S.fuel] 59))
  have OW0 : Hid (OwnSt (w2.alloc (.cells #[.slice C0 S.data.length c0, .slice C1 S.ret.length c1, .int .i32 S.a, .slice C2 S.mem.length c2, .slice C3 S.cells.length c3, .slice C4 S.vars.length c4, .slice C5 S.out.length c5, .slice C6 S.inp.length c6, .int .i64 S.fault, .int .i64 S.fuel] 59)) LO HI (.slice C0 S.data.length c0) (.slice C1 S.ret.length c1) (.slice C2 S.mem.length c2) (.slice C3 S.cells.length c3) (.slice C4 S.vars.length c4) (.slice C5 S.out.length c5) (.slice C6 S.inp.length c6) (levS 0 S)) := Lib.hid (by unfold levS; rw [levR_zero, ← hLO, ← hHI]; exact HO.out.alloc _)
  have BB0 := Lib.hid (HB2.out.alloc HB2.out.size (.cells #[.slice C0 S.data.length c0, .slice C1 S.ret.length c1, .int .i32 S.a, .slice C2 S.mem.length c2, .slice C3 S.cells.length c3, .slice C4 S.vars.length c4, .slice C5 S.out.length c5, .slice C6 S.inp.length c6, .int .i64 S.fault, .int .i64 S.fuel] 59))
  have HS0 : Hid (HI ≤ (w2.alloc (.cells #[.slice C0 S.data.length c0, .slice C1 S.ret.length c1, .int .i32 S.a, .slice C2 S.mem.length c2, .slice C3 S.cells.length c3, .slice C4 S.vars.length c4, .slice C5 S.out.length c5, .slice C6 S.inp.length c6, .int .i64 S.fault, .int .i64 S.fuel] 59)).heap.size) := Lib.hid (by rw [World.size_alloc]; omega)
  clear hLO hHI HO HB2 KR2 sz1 sz2
  go_wp2_with fail
  go_loopw [4] (fun vi wr => ∃ i : Nat, vi = .int .i64 i ∧ i ≤ S.ret.length ∧ Hid (Blk wr w2.heap.size 59 #[.slice C0 S.data.length c0, .slice C1 S.ret.length c1, .int .i32 S.a, .slice C2 S.mem.length c2, .slice C3 S.cells.length c3, .slice C4 S.vars.length c4, .slice C5 S.out.length c5, .slice C6 S.inp.length c6, .int .i64 S.fault, .int .i64 S.fuel]) ∧ Hid (Blk wr (w.heap.size + 1) 59 #[.slice none 0 0, .slice none 0 0, .int .i32 0, .slice none 0 0, .slice none 0 0, .slice none 0 0, .slice none 0 0, .slice none 0 0, .int .i64 0, .int .i64 0]) ∧ Hid (OwnSt wr LO HI (.slice C0 S.data.length c0) (.slice C1 S.ret.length c1) (.slice C2 S.mem.length c2) (.slice C3 S.cells.length c3) (.slice C4 S.vars.length c4) (.slice C5 S.out.length c5) (.slice C6 S.inp.length c6) (levS i S)) ∧ Hid (Below w.heap.size w wr) ∧ Hid (HI ≤ wr.heap.size)) (fun vi _ => S.ret.length - (intOf vi).toNat)
  case atStart => exact ⟨0, rfl, by omega, KB0, KZ0, OW0, BB0, HS0⟩
  case round =>
    obtain ⟨i, rfl, hi, KB, KZ, OW, BB, HS⟩ := hrel
    clear KB0 KZ0 OW0 BB0 HS0
    have hri := HRL.out
    have b1 : wr.cell? ⟨w2.heap.size, 1, none⟩ = some (.slice C1 S.ret.length c1) := KB.out.cell 1
    by_cases hp : i < S.ret.length
    · have hl := levR_len i S.ret
      have hil : i < (levR i S.ret).length := by omega
      have row : wr.ownsRow LO 109 2 (.slice C1 S.ret.length c1) (levR i S.ret).length (slv (levR i S.ret)) := OW.out.r
      rw [hl] at row
      obtain ⟨g, rfl, hgc⟩ : ∃ g, C1 = some ⟨g, 0, none⟩ ∧ S.ret.length ≤ c1 := by
        rcases row.2 with ⟨-, h0⟩ | ⟨g, cp, cur, e, hb, hg, hnc, -⟩
        · omega
        · injection e with e1 e2 e3
          exact ⟨g, e1, by omega⟩
      have cell0 : wr.cell? ⟨g, i * 2, none⟩ = some (.int .i64 (levR i S.ret)[i].1) := (row.cellAt (i * 2) (by omega)).trans (slv_get0 hil)
      have cell1 : wr.cell? ⟨g, i * 2 + 1, none⟩ = some (.int .i32 (levR i S.ret)[i].2) := (row.cellAt (i * 2 + 1) (by omega)).trans (slv_get1 hil)
      rw [levR_get hp hil] at cell0 cell1
      have f1 := row.frozenAt (i * 2 + 1)
      have s1 := row.stored (i * 2 + 1) (.int .i32 0)
      have hs1 := s1.1
      rw [slv_set1 hil, levR_get hp hil] at hs1
      have i1 : (0 : Int) ≤ (i : Int) := by omega
      have i2 : (i : Int) < (S.ret.length : Int) := by omega
      by_cases hk : (S.ret[i]).1 = 2
      · have hk2 : ((S.ret[i]).1 == 2) = true := by simpa using hk
        have hgo : (Value.slice (some ⟨g, 0, none⟩) S.ret.length c1).ownBlock = some g := by simp [Value.ownBlock]
        have hgr := (World.ownsRow.lt row g hgo)
        have e2 : levR (i + 1) S.ret = (levR i S.ret).set i ((S.ret[i]).1, 0) := by rw [levR_succ hp]; unfold lvl; rw [if_pos hk]
        have l2 : ((levR i S.ret).set i ((S.ret[i]).1, 0)).length = S.ret.length := by rw [List.length_set, hl]
        have OW2 := Lib.hid (OW.out.ret2 (l := levR (i + 1) S.ret) (by rw [e2, l2]; exact hs1) (by rw [hgo]; exact s1.2))
        have gtop : g < HI := OW.out.top _ (by simp) g hgo
        have KB2 := Lib.hid (KB.out.far (p := ⟨g, i * 2 + 1, none⟩) (by have := HHI.out; show w2.heap.size ≠ g; omega) (.int .i32 0))
        have KZ2 := Lib.hid (KZ.out.far (p := ⟨g, i * 2 + 1, none⟩) (by have := hgr.1; have := HLO.out; show w.heap.size + 1 ≠ g; omega) (.int .i32 0))
        have BB2 := Lib.hid (BB.out.setCell (p := ⟨g, i * 2 + 1, none⟩) (by have := hgr.1; have := HLO.out; show w.heap.size ≤ g; omega) (.int .i32 0))
        have HS2 : Hid (HI ≤ (wr.setCell ⟨g, i * 2 + 1, none⟩ (.int .i32 0)).heap.size) := Lib.hid (by have := HS.out; simpa [World.setCell] using this)
        clear hl hil row hs1 s1 hk e2 l2 hgo hgr gtop KB KZ OW BB HS
        go_wp2_with fail
        go_roundw
        case rel => exact ⟨i + 1, by go_num, by omega, KB2, KZ2, OW2, BB2, HS2⟩
        case measure => simp [intOf]; omega
      · have hk2 : ((S.ret[i]).1 == 2) = false := by simpa using hk
        have OW2 : Hid (OwnSt wr LO HI (.slice C0 S.data.length c0) (.slice (some ⟨g, 0, none⟩) S.ret.length c1) (.slice C2 S.mem.length c2) (.slice C3 S.cells.length c3) (.slice C4 S.vars.length c4) (.slice C5 S.out.length c5) (.slice C6 S.inp.length c6) (levS (i + 1) S)) := Lib.hid (by have := OW.out; unfold levS at this ⊢; rw [levR_same hp hk]; exact this)
        clear hl hil row hs1 s1 hk OW f1
        go_wp2_with fail
        go_roundw
        case rel => exact ⟨i + 1, by go_num, by omega, KB, KZ, OW2, BB, HS⟩
        case measure => simp [intOf]; omega
    · obtain rfl : i = S.ret.length := by omega
      have OWE : Hid (OwnSt wr LO HI (.slice C0 S.data.length c0) (.slice C1 S.ret.length c1) (.slice C2 S.mem.length c2) (.slice C3 S.cells.length c3) (.slice C4 S.vars.length c4) (.slice C5 S.out.length c5) (.slice C6 S.inp.length c6) { S with ret := S.ret.map lvl }) := Lib.hid (by have := OW.out; unfold levS at this; rw [levR_all] at this; exact this)
      obtain ⟨t0, t1, t2, t3, t4, t5, t6, t7, t8, t9⟩ := st_cells KB.out
      obtain ⟨r0, r1, r2, r3, r4, r5, r6, r7, r8, r9⟩ := st_cells KZ.out
      have fr := KZ.out.frozen
      have lr : w.heap.size + 1 < wr.heap.size := KZ.out.lt
      have lb : w2.heap.size < wr.heap.size := KB.out.lt
      clear OW hri b1
      have hp2 : ¬ (S.ret.length : Int) < (S.ret.length : Int) := by omega
      go_wp2_with fail
      have kr := KZ.out
      show bodyPost _ _ _ _ _ (putSt wr (w.heap.size + 1) (.slice C0 S.data.length c0) (.slice C1 S.ret.length c1) (.int .i32 S.a) (.slice C2 S.mem.length c2) (.slice C3 S.cells.length c3) (.slice C4 S.vars.length c4) (.slice C5 S.out.length c5) (.slice C6 S.inp.length c6) (.int .i64 S.fault) (.int .i64 S.fuel))
      have y1 := putSt_blk kr (.slice C0 S.data.length c0) (.slice C1 S.ret.length c1) (.int .i32 S.a) (.slice C2 S.mem.length c2) (.slice C3 S.cells.length c3) (.slice C4 S.vars.length c4) (.slice C5 S.out.length c5) (.slice C6 S.inp.length c6) (.int .i64 S.fault) (.int .i64 S.fuel)
      have y2 := (BB.out).grown (putSt_only wr (w.heap.size + 1) (.slice C0 S.data.length c0) (.slice C1 S.ret.length c1) (.int .i32 S.a) (.slice C2 S.mem.length c2) (.slice C3 S.cells.length c3) (.slice C4 S.vars.length c4) (.slice C5 S.out.length c5) (.slice C6 S.inp.length c6) (.int .i64 S.fault) (.int .i64 S.fuel)) (BB.out).size (fun k hk => by injection hk with hk; omega)
      have y3 := OwnSt.setSt OWE.out (g := w.heap.size + 1) (.inl (by have := HLO.out; omega)) (.slice C0 S.data.length c0) (.slice C1 S.ret.length c1) (.int .i32 S.a) (.slice C2 S.mem.length c2) (.slice C3 S.cells.length c3) (.slice C4 S.vars.length c4) (.slice C5 S.out.length c5) (.slice C6 S.inp.length c6) (.int .i64 S.fault) (.int .i64 S.fuel)
      have y4 := putSt_size wr (w.heap.size + 1) (.slice C0 S.data.length c0) (.slice C1 S.ret.length c1) (.int .i32 S.a) (.slice C2 S.mem.length c2) (.slice C3 S.cells.length c3) (.slice C4 S.vars.length c4) (.slice C5 S.out.length c5) (.slice C6 S.inp.length c6) (.int .i64 S.fault) (.int .i64 S.fuel)
      generalize putSt wr (w.heap.size + 1) (.slice C0 S.data.length c0) (.slice C1 S.ret.length c1) (.int .i32 S.a) (.slice C2 S.mem.length c2) (.slice C3 S.cells.length c3) (.slice C4 S.vars.length c4) (.slice C5 S.out.length c5) (.slice C6 S.inp.length c6) (.int .i64 S.fault) (.int .i64 S.fuel) = W at y1 y2 y3 y4 ⊢
      obtain ⟨z0, z1, z2, z3, z4, z5, z6, z7, z8, z9⟩ := st_cells y1
      have OWF : Hid (NewSt w { S with ret := S.ret.map lvl } (.returned (.agg #[.slice C0 S.data.length c0, .slice C1 S.ret.length c1, .int .i32 S.a, .slice C2 S.mem.length c2, .slice C3 S.cells.length c3, .slice C4 S.vars.length c4, .slice C5 S.out.length c5, .slice C6 S.inp.length c6, .int .i64 S.fault, .int .i64 S.fuel])) W) := Lib.hid (newst_of (lo := LO) (hi := HI) y3 (by have := HLO.out; omega) (by rw [y4]; exact HS.out) y2)
      exact bodyPost_ret (v := .agg #[.slice C0 S.data.length c0, .slice C1 S.ret.length c1, .int .i32 S.a, .slice C2 S.mem.length c2, .slice C3 S.cells.length c3, .slice C4 S.vars.length c4, .slice C5 S.out.length c5, .slice C6 S.inp.length c6, .int .i64 S.fault, .int .i64 S.fuel]) (by simp [results, Try.results35, z0, z1, z2, z3, z4, z5, z6, z7, z8, z9, go_sem]) rfl OWF.out
set_option maxRecDepth 100000 in
set_option maxHeartbeats 3000000 in
theorem ilevel_no (d r m c v o i : Value) (S : S8) (_hs : totSt S ≤ 2500000) (w : World) (hr : RdSt w d r m c v o i S) (hk : ok8 S = false) :
    Calls Try.prog 37 #[.agg #[d, r, .int .i32 S.a, m, c, v, o, i, .int .i64 S.fault, .int .i64 S.fuel]] w (NewSt w (zero8)) := by
  have hform := hr.form
  obtain ⟨⟨A0, a0, rfl⟩, ⟨A1, a1, rfl⟩, ⟨A2, a2, rfl⟩, ⟨A3, a3, rfl⟩, ⟨A4, a4, rfl⟩, ⟨A5, a5, rfl⟩, ⟨A6, a6, rfl⟩⟩ := hform
  have e1 : (w.alloc (.cells #[.slice A0 S.data.length a0, .slice A1 S.ret.length a1, .int .i32 S.a, .slice A2 S.mem.length a2, .slice A3 S.cells.length a3, .slice A4 S.vars.length a4, .slice A5 S.out.length a5, .slice A6 S.inp.length a6, .int .i64 S.fault, .int .i64 S.fuel] 59)).heap.size = w.heap.size + 1 := by simp
  have KP := Lib.hid (((Blk.new w 59 #[.slice A0 S.data.length a0, .slice A1 S.ret.length a1, .int .i32 S.a, .slice A2 S.mem.length a2, .slice A3 S.cells.length a3, .slice A4 S.vars.length a4, .slice A5 S.out.length a5, .slice A6 S.inp.length a6, .int .i64 S.fault, .int .i64 S.fuel]).alloc (.cells #[.slice none 0 0, .slice none 0 0, .int .i32 0, .slice none 0 0, .slice none 0 0, .slice none 0 0, .slice none 0 0, .slice none 0 0, .int .i64 0, .int .i64 0] 59)))
  have KR : Hid (Blk ((w.alloc (.cells #[.slice A0 S.data.length a0, .slice A1 S.ret.length a1, .int .i32 S.a, .slice A2 S.mem.length a2, .slice A3 S.cells.length a3, .slice A4 S.vars.length a4, .slice A5 S.out.length a5, .slice A6 S.inp.length a6, .int .i64 S.fault, .int .i64 S.fuel] 59)).alloc (.cells #[.slice none 0 0, .slice none 0 0, .int .i32 0, .slice none 0 0, .slice none 0 0, .slice none 0 0, .slice none 0 0, .slice none 0 0, .int .i64 0, .int .i64 0] 59)) (w.heap.size + 1) 59 #[.slice none 0 0, .slice none 0 0, .int .i32 0, .slice none 0 0, .slice none 0 0, .slice none 0 0, .slice none 0 0, .slice none 0 0, .int .i64 0, .int .i64 0]) := Lib.hid (by have := Blk.new (w.alloc (.cells #[.slice A0 S.data.length a0, .slice A1 S.ret.length a1, .int .i32 S.a, .slice A2 S.mem.length a2, .slice A3 S.cells.length a3, .slice A4 S.vars.length a4, .slice A5 S.out.length a5, .slice A6 S.inp.length a6, .int .i64 S.fault, .int .i64 S.fuel] 59)) 59 #[.slice none 0 0, .slice none 0 0, .int .i32 0, .slice none 0 0, .slice none 0 0, .slice none 0 0, .slice none 0 0, .slice none 0 0, .int .i64 0, .int .i64 0]; rw [e1] at this; exact this)
  have B0 : Hid (Below w.heap.size w ((w.alloc (.cells #[.slice A0 S.data.length a0, .slice A1 S.ret.length a1, .int .i32 S.a, .slice A2 S.mem.length a2, .slice A3 S.cells.length a3, .slice A4 S.vars.length a4, .slice A5 S.out.length a5, .slice A6 S.inp.length a6, .int .i64 S.fault, .int .i64 S.fuel] 59)).alloc (.cells #[.slice none 0 0, .slice none 0 0, .int .i32 0, .slice none 0 0, .slice none 0 0, .slice none 0 0, .slice none 0 0, .slice none 0 0, .int .i64 0, .int .i64 0] 59))) := Lib.hid (below_alloc2 w _ _)
  have Z0 : ((w.alloc (.cells #[.slice A0 S.data.length a0, .slice A1 S.ret.length a1, .int .i32 S.a, .slice A2 S.mem.length a2, .slice A3 S.cells.length a3, .slice A4 S.vars.length a4, .slice A5 S.out.length a5, .slice A6 S.inp.length a6, .int .i64 S.fault, .int .i64 S.fuel] 59)).alloc (.cells #[.slice none 0 0, .slice none 0 0, .int .i32 0, .slice none 0 0, .slice none 0 0, .slice none 0 0, .slice none 0 0, .slice none 0 0, .int .i64 0, .int .i64 0] 59)).heap.size = w.heap.size + 2 := by simp
  have HZ0 := Lib.hid Z0
  clear Z0 e1
  have HK := Lib.hid (fun W (h : Below w.heap.size w W) => impl_stok _ _ _ _ _ _ _ S W (hr.below h))
  rw [hk] at HK
  clear hr hk _hs
  go_enter Try.func37, Try.ntmps37
  go_wp2_with fail
  refine (HK.out _ B0.out).mono ?_
  rintro e w1 ⟨rfl, hb1⟩
  have sz1 : w.heap.size + 2 ≤ w1.heap.size := by have := hb1.size; rw [HZ0.out] at this; exact this
  have HB1 : Hid (Below w.heap.size w w1) := Lib.hid (B0.out.trans (hb1.mono B0.out.size))
  have KP1 := Lib.hid (KP.out.below hb1 KP.out.lt)
  have KR1 := Lib.hid (KR.out.below hb1 KR.out.lt)
  obtain ⟨p0, p1, p2, p3, p4, p5, p6, p7, p8, p9⟩ := st_cells KP1.out
  obtain ⟨r0, r1, r2, r3, r4, r5, r6, r7, r8, r9⟩ := st_cells KR1.out
  have lp : w.heap.size < w1.heap.size := KP1.out.lt
  have lr : w.heap.size + 1 < w1.heap.size := KR1.out.lt
  have fp := KP1.out.frozen
  have fr := KR1.out.frozen
  clear hb1 KP KR B0 HZ0 HK
  go_wp2_with fail
  have kr := KR1.out
  show bodyPost _ _ _ _ _ (putSt w1 (w.heap.size + 1) (.slice none 0 0) (.slice none 0 0) (.int .i32 0) (.slice none 0 0) (.slice none 0 0) (.slice none 0 0) (.slice none 0 0) (.slice none 0 0) (.int .i64 0) (.int .i64 0))
  have y1 := putSt_blk kr (.slice none 0 0) (.slice none 0 0) (.int .i32 0) (.slice none 0 0) (.slice none 0 0) (.slice none 0 0) (.slice none 0 0) (.slice none 0 0) (.int .i64 0) (.int .i64 0)
  have y2 := HB1.out.grown (putSt_only w1 (w.heap.size + 1) (.slice none 0 0) (.slice none 0 0) (.int .i32 0) (.slice none 0 0) (.slice none 0 0) (.slice none 0 0) (.slice none 0 0) (.slice none 0 0) (.int .i64 0) (.int .i64 0)) HB1.out.size (fun k hk => by injection hk with hk; omega)
  generalize putSt w1 (w.heap.size + 1) (.slice none 0 0) (.slice none 0 0) (.int .i32 0) (.slice none 0 0) (.slice none 0 0) (.slice none 0 0) (.slice none 0 0) (.slice none 0 0) (.int .i64 0) (.int .i64 0) = W at y1 y2 ⊢
  obtain ⟨z0, z1, z2, z3, z4, z5, z6, z7, z8, z9⟩ := st_cells y1
  exact bodyPost_ret (v := .agg #[.slice none 0 0, .slice none 0 0, .int .i32 0, .slice none 0 0, .slice none 0 0, .slice none 0 0, .slice none 0 0, .slice none 0 0, .int .i64 0, .int .i64 0]) (by simp [results, Try.results37, z0, z1, z2, z3, z4, z5, z6, z7, z8, z9, go_sem]) rfl (newst_zero y2)
set_option maxRecDepth 100000 in
set_option maxHeartbeats 3000000 in
theorem ilevel_yes (d r m c v o i : Value) (S : S8) (hs : totSt S ≤ 2500000) (w : World) (hr : RdSt w d r m c v o i S) (hk : ok8 S = true) :
    Calls Try.prog 37 #[.agg #[d, r, .int .i32 S.a, m, c, v, o, i, .int .i64 S.fault, .int .i64 S.fuel]] w (NewSt w { S with ret := S.ret.map lvl }) := by
  have hform := hr.form
  obtain ⟨⟨A0, a0, rfl⟩, ⟨A1, a1, rfl⟩, ⟨A2, a2, rfl⟩, ⟨A3, a3, rfl⟩, ⟨A4, a4, rfl⟩, ⟨A5, a5, rfl⟩, ⟨A6, a6, rfl⟩⟩ := hform
  have e1 : (w.alloc (.cells #[.slice A0 S.data.length a0, .slice A1 S.ret.length a1, .int .i32 S.a, .slice A2 S.mem.length a2, .slice A3 S.cells.length a3, .slice A4 S.vars.length a4, .slice A5 S.out.length a5, .slice A6 S.inp.length a6, .int .i64 S.fault, .int .i64 S.fuel] 59)).heap.size = w.heap.size + 1 := by simp
  have KP := Lib.hid (((Blk.new w 59 #[.slice A0 S.data.length a0, .slice A1 S.ret.length a1, .int .i32 S.a, .slice A2 S.mem.length a2, .slice A3 S.cells.length a3, .slice A4 S.vars.length a4, .slice A5 S.out.length a5, .slice A6 S.inp.length a6, .int .i64 S.fault, .int .i64 S.fuel]).alloc (.cells #[.slice none 0 0, .slice none 0 0, .int .i32 0, .slice none 0 0, .slice none 0 0, .slice none 0 0, .slice none 0 0, .slice none 0 0, .int .i64 0, .int .i64 0] 59)))
  have KR : Hid (Blk ((w.alloc (.cells #[.slice A0 S.data.length a0, .slice A1 S.ret.length a1, .int .i32 S.a, .slice A2 S.mem.length a2, .slice A3 S.cells.length a3, .slice A4 S.vars.length a4, .slice A5 S.out.length a5, .slice A6 S.inp.length a6, .int .i64 S.fault, .int .i64 S.fuel] 59)).alloc (.cells #[.slice none 0 0, .slice none 0 0, .int .i32 0, .slice none 0 0, .slice none 0 0, .slice none 0 0, .slice none 0 0, .slice none 0 0, .int .i64 0, .int .i64 0] 59)) (w.heap.size + 1) 59 #[.slice none 0 0, .slice none 0 0, .int .i32 0, .slice none 0 0, .slice none 0 0, .slice none 0 0, .slice none 0 0, .slice none 0 0, .int .i64 0, .int .i64 0]) := Lib.hid (by have := Blk.new (w.alloc (.cells #[.slice A0 S.data.length a0, .slice A1 S.ret.length a1, .int .i32 S.a, .slice A2 S.mem.length a2, .slice A3 S.cells.length a3, .slice A4 S.vars.length a4, .slice A5 S.out.length a5, .slice A6 S.inp.length a6, .int .i64 S.fault, .int .i64 S.fuel] 59)) 59 #[.slice none 0 0, .slice none 0 0, .int .i32 0, .slice none 0 0, .slice none 0 0, .slice none 0 0, .slice none 0 0, .slice none 0 0, .int .i64 0, .int .i64 0]; rw [e1] at this; exact this)
  have B0 : Hid (Below w.heap.size w ((w.alloc (.cells #[.slice A0 S.data.length a0, .slice A1 S.ret.length a1, .int .i32 S.a, .slice A2 S.mem.length a2, .slice A3 S.cells.length a3, .slice A4 S.vars.length a4, .slice A5 S.out.length a5, .slice A6 S.inp.length a6, .int .i64 S.fault, .int .i64 S.fuel] 59)).alloc (.cells #[.slice none 0 0, .slice none 0 0, .int .i32 0, .slice none 0 0, .slice none 0 0, .slice none 0 0, .slice none 0 0, .slice none 0 0, .int .i64 0, .int .i64 0] 59))) := Lib.hid (below_alloc2 w _ _)
  have Z0 : ((w.alloc (.cells #[.slice A0 S.data.length a0, .slice A1 S.ret.length a1, .int .i32 S.a, .slice A2 S.mem.length a2, .slice A3 S.cells.length a3, .slice A4 S.vars.length a4, .slice A5 S.out.length a5, .slice A6 S.inp.length a6, .int .i64 S.fault, .int .i64 S.fuel] 59)).alloc (.cells #[.slice none 0 0, .slice none 0 0, .int .i32 0, .slice none 0 0, .slice none 0 0, .slice none 0 0, .slice none 0 0, .slice none 0 0, .int .i64 0, .int .i64 0] 59)).heap.size = w.heap.size + 2 := by simp
  have HZ0 := Lib.hid Z0
  clear Z0 e1
  have HK := Lib.hid (fun W (h : Below w.heap.size w W) => impl_stok _ _ _ _ _ _ _ S W (hr.below h))
  rw [hk] at HK
  have hok := (ok8_iff S).1 hk
  have HOW := Lib.hid (fun W (h : Below w.heap.size w W) => ownst_any _ _ _ _ _ _ _ S (by omega) W (hr.below h))
  have HTS : Hid (totSt S ≤ 4000000) := Lib.hid (by omega)
  have HRL := Lib.hid hok.ret
  clear hr hk hs hok
  go_enter Try.func37, Try.ntmps37
  go_wp2_with fail
  refine (HK.out _ B0.out).mono ?_
  rintro e w1 ⟨rfl, hb1⟩
  have sz1 : w.heap.size + 2 ≤ w1.heap.size := by have := hb1.size; rw [HZ0.out] at this; exact this
  have HB1 : Hid (Below w.heap.size w w1) := Lib.hid (B0.out.trans (hb1.mono B0.out.size))
  have KP1 := Lib.hid (KP.out.below hb1 KP.out.lt)
  have KR1 := Lib.hid (KR.out.below hb1 KR.out.lt)
  obtain ⟨p0, p1, p2, p3, p4, p5, p6, p7, p8, p9⟩ := st_cells KP1.out
  obtain ⟨r0, r1, r2, r3, r4, r5, r6, r7, r8, r9⟩ := st_cells KR1.out
  have lp : w.heap.size < w1.heap.size := KP1.out.lt
  have lr : w.heap.size + 1 < w1.heap.size := KR1.out.lt
  have fp := KP1.out.frozen
  have fr := KR1.out.frozen
  clear hb1 KP KR B0 HZ0 HK
  go_wp2_with fail
  refine (HOW.out _ HB1.out).mono ?_
  rintro e w2 ⟨q0, q1, q2, q3, q4, q5, q6, rfl, ho2, hb2⟩
  have sz2 : w1.heap.size ≤ w2.heap.size := hb2.size
  have HB2 := Lib.hid (HB1.out.trans (hb2.mono HB1.out.size))
  have kr2 := KR1.out.below hb2 KR1.out.lt
  have kp2 := KP1.out.below hb2 KP1.out.lt
  obtain ⟨⟨C0, c0, rfl⟩, ⟨C1, c1, rfl⟩, ⟨C2, c2, rfl⟩, ⟨C3, c3, rfl⟩, ⟨C4, c4, rfl⟩, ⟨C5, c5, rfl⟩, ⟨C6, c6, rfl⟩⟩ := ho2.form HTS.out
  have HO := Lib.hid ho2
  have KP2 := Lib.hid kp2
  have KR2 := Lib.hid kr2
  clear p0 p1 p2 p3 p4 p5 p6 p7 p8 p9 r0 r1 r2 r3 r4 r5 r6 r7 r8 r9 lp lr fp fr hb2 ho2 kr2 kp2 KP1 KR1 HOW
  obtain ⟨p0, p1, p2, p3, p4, p5, p6, p7, p8, p9⟩ := st_cells KP2.out
  have fp := KP2.out.frozen
  have lp : w.heap.size < w2.heap.size := KP2.out.lt
  obtain ⟨LO, hLO⟩ : ∃ z, w1.heap.size = z := ⟨_, rfl⟩
  obtain ⟨HI, hHI⟩ : ∃ z, w2.heap.size = z := ⟨_, rfl⟩
  have HLO : Hid (w.heap.size + 2 ≤ LO) := Lib.hid (by omega)
  obtain ⟨W3, hW3⟩ : ∃ W, W = putSt w2 w.heap.size (.slice C0 S.data.length c0) (.slice C1 S.ret.length c1) (.int .i32 S.a) (.slice C2 S.mem.length c2) (.slice C3 S.cells.length c3) (.slice C4 S.vars.length c4) (.slice C5 S.out.length c5) (.slice C6 S.inp.length c6) (.int .i64 S.fault) (.int .i64 S.fuel) := ⟨_, rfl⟩
  have q1 := putSt_blk KP2.out (.slice C0 S.data.length c0) (.slice C1 S.ret.length c1) (.int .i32 S.a) (.slice C2 S.mem.length c2) (.slice C3 S.cells.length c3) (.slice C4 S.vars.length c4) (.slice C5 S.out.length c5) (.slice C6 S.inp.length c6) (.int .i64 S.fault) (.int .i64 S.fuel)
  have q2 := putSt_only w2 w.heap.size (.slice C0 S.data.length c0) (.slice C1 S.ret.length c1) (.int .i32 S.a) (.slice C2 S.mem.length c2) (.slice C3 S.cells.length c3) (.slice C4 S.vars.length c4) (.slice C5 S.out.length c5) (.slice C6 S.inp.length c6) (.int .i64 S.fault) (.int .i64 S.fuel)
  have q3 := OwnSt.setSt HO.out (g := w.heap.size) (.inl (by omega)) (.slice C0 S.data.length c0) (.slice C1 S.ret.length c1) (.int .i32 S.a) (.slice C2 S.mem.length c2) (.slice C3 S.cells.length c3) (.slice C4 S.vars.length c4) (.slice C5 S.out.length c5) (.slice C6 S.inp.length c6) (.int .i64 S.fault) (.int .i64 S.fuel)
  have q4 := putSt_size w2 w.heap.size (.slice C0 S.data.length c0) (.slice C1 S.ret.length c1) (.int .i32 S.a) (.slice C2 S.mem.length c2) (.slice C3 S.cells.length c3) (.slice C4 S.vars.length c4) (.slice C5 S.out.length c5) (.slice C6 S.inp.length c6) (.int .i64 S.fault) (.int .i64 S.fuel)
  rw [← hW3] at q1 q2 q3 q4
  have KB0 := Lib.hid q1
  have KZ0 := Lib.hid (KR2.out.grown q2 (fun e => by injection e with e; omega))
  have OW0 : Hid (OwnSt W3 LO HI (.slice C0 S.data.length c0) (.slice C1 S.ret.length c1) (.slice C2 S.mem.length c2) (.slice C3 S.cells.length c3) (.slice C4 S.vars.length c4) (.slice C5 S.out.length c5) (.slice C6 S.inp.length c6) (levS 0 S)) := Lib.hid (by unfold levS; rw [levR_zero, ← hLO, ← hHI]; exact q3)
  have BB0 := Lib.hid (HB2.out.grown q2 HB2.out.size (fun k hk => by injection hk with hk; omega))
  have HS0 : Hid (HI ≤ W3.heap.size) := Lib.hid (by rw [q4]; omega)
  have HGL : Hid (∀ g, LO ≤ g → w.heap.size ≠ g) := Lib.hid (fun g hg => by omega)
  unfold putSt at hW3
  have HW3 := Lib.hid hW3
  clear hLO hHI HO HB2 KR2 KP2 q1 q2 q3 q4 hW3 sz1 sz2
  go_upto_region 4 with (fail)
  rw [← HW3.out]
  clear p0 p1 p2 p3 p4 p5 p6 p7 p8 p9 fp lp HW3
  have b1 : W3.cell? ⟨w.heap.size, 1, none⟩ = some (.slice C1 S.ret.length c1) := KB0.out.cell 1
  go_wp2_with fail
  go_loopw [13] (fun vi wr => ∃ i : Nat, vi = .int .i64 i ∧ i ≤ S.ret.length ∧ Hid (Blk wr w.heap.size 59 #[.slice C0 S.data.length c0, .slice C1 S.ret.length c1, .int .i32 S.a, .slice C2 S.mem.length c2, .slice C3 S.cells.length c3, .slice C4 S.vars.length c4, .slice C5 S.out.length c5, .slice C6 S.inp.length c6, .int .i64 S.fault, .int .i64 S.fuel]) ∧ Hid (Blk wr (w.heap.size + 1) 59 #[.slice none 0 0, .slice none 0 0, .int .i32 0, .slice none 0 0, .slice none 0 0, .slice none 0 0, .slice none 0 0, .slice none 0 0, .int .i64 0, .int .i64 0]) ∧ Hid (OwnSt wr LO HI (.slice C0 S.data.length c0) (.slice C1 S.ret.length c1) (.slice C2 S.mem.length c2) (.slice C3 S.cells.length c3) (.slice C4 S.vars.length c4) (.slice C5 S.out.length c5) (.slice C6 S.inp.length c6) (levS i S)) ∧ Hid (Below w.heap.size w wr) ∧ Hid (HI ≤ wr.heap.size)) (fun vi _ => S.ret.length - (intOf vi).toNat)
  case atStart => exact ⟨0, rfl, by omega, KB0, KZ0, OW0, BB0, HS0⟩
  case round =>
    obtain ⟨i, rfl, hi, KB, KZ, OW, BB, HS⟩ := hrel
    clear KB0 KZ0 OW0 BB0 HS0 b1
    have hri := HRL.out
    have b1 : wr.cell? ⟨w.heap.size, 1, none⟩ = some (.slice C1 S.ret.length c1) := KB.out.cell 1
    by_cases hp : i < S.ret.length
    · have hl := levR_len i S.ret
      have hil : i < (levR i S.ret).length := by omega
      have row : wr.ownsRow LO 109 2 (.slice C1 S.ret.length c1) (levR i S.ret).length (slv (levR i S.ret)) := OW.out.r
      rw [hl] at row
      obtain ⟨g, rfl, hgc⟩ : ∃ g, C1 = some ⟨g, 0, none⟩ ∧ S.ret.length ≤ c1 := by
        rcases row.2 with ⟨-, h0⟩ | ⟨g, cp, cur, e, hb, hg, hnc, -⟩
        · omega
        · injection e with e1 e2 e3
          exact ⟨g, e1, by omega⟩
      have cell0 : wr.cell? ⟨g, i * 2, none⟩ = some (.int .i64 (levR i S.ret)[i].1) := (row.cellAt (i * 2) (by omega)).trans (slv_get0 hil)
      have cell1 : wr.cell? ⟨g, i * 2 + 1, none⟩ = some (.int .i32 (levR i S.ret)[i].2) := (row.cellAt (i * 2 + 1) (by omega)).trans (slv_get1 hil)
      rw [levR_get hp hil] at cell0 cell1
      have f1 := row.frozenAt (i * 2 + 1)
      have s1 := row.stored (i * 2 + 1) (.int .i32 0)
      have hs1 := s1.1
      rw [slv_set1 hil, levR_get hp hil] at hs1
      have i1 : (0 : Int) ≤ (i : Int) := by omega
      have i2 : (i : Int) < (S.ret.length : Int) := by omega
      by_cases hk : (S.ret[i]).1 = 2
      · have hk2 : ((S.ret[i]).1 == 2) = true := by simpa using hk
        have hgo : (Value.slice (some ⟨g, 0, none⟩) S.ret.length c1).ownBlock = some g := by simp [Value.ownBlock]
        have hgr := (World.ownsRow.lt row g hgo)
        have e2 : levR (i + 1) S.ret = (levR i S.ret).set i ((S.ret[i]).1, 0) := by rw [levR_succ hp]; unfold lvl; rw [if_pos hk]
        have l2 : ((levR i S.ret).set i ((S.ret[i]).1, 0)).length = S.ret.length := by rw [List.length_set, hl]
        have OW2 := Lib.hid (OW.out.ret2 (l := levR (i + 1) S.ret) (by rw [e2, l2]; exact hs1) (by rw [hgo]; exact s1.2))
        have gtop : g < HI := OW.out.top _ (by simp) g hgo
        have KB2 := Lib.hid (KB.out.far (p := ⟨g, i * 2 + 1, none⟩) (by exact HGL.out g hgr.1) (.int .i32 0))
        have KZ2 := Lib.hid (KZ.out.far (p := ⟨g, i * 2 + 1, none⟩) (by have := hgr.1; have := HLO.out; show w.heap.size + 1 ≠ g; omega) (.int .i32 0))
        have BB2 := Lib.hid (BB.out.setCell (p := ⟨g, i * 2 + 1, none⟩) (by have := hgr.1; have := HLO.out; show w.heap.size ≤ g; omega) (.int .i32 0))
        have HS2 : Hid (HI ≤ (wr.setCell ⟨g, i * 2 + 1, none⟩ (.int .i32 0)).heap.size) := Lib.hid (by have := HS.out; simpa [World.setCell] using this)
        clear hl hil row hs1 s1 hk e2 l2 hgo hgr gtop KB KZ OW BB HS
        go_wp2_with fail
        go_roundw
        case rel => exact ⟨i + 1, by go_num, by omega, KB2, KZ2, OW2, BB2, HS2⟩
        case measure => simp [intOf]; omega
      · have hk2 : ((S.ret[i]).1 == 2) = false := by simpa using hk
        have OW2 : Hid (OwnSt wr LO HI (.slice C0 S.data.length c0) (.slice (some ⟨g, 0, none⟩) S.ret.length c1) (.slice C2 S.mem.length c2) (.slice C3 S.cells.length c3) (.slice C4 S.vars.length c4) (.slice C5 S.out.length c5) (.slice C6 S.inp.length c6) (levS (i + 1) S)) := Lib.hid (by have := OW.out; unfold levS at this ⊢; rw [levR_same hp hk]; exact this)
        clear hl hil row hs1 s1 hk OW f1
        go_wp2_with fail
        go_roundw
        case rel => exact ⟨i + 1, by go_num, by omega, KB, KZ, OW2, BB, HS⟩
        case measure => simp [intOf]; omega
    · obtain rfl : i = S.ret.length := by omega
      have OWE : Hid (OwnSt wr LO HI (.slice C0 S.data.length c0) (.slice C1 S.ret.length c1) (.slice C2 S.mem.length c2) (.slice C3 S.cells.length c3) (.slice C4 S.vars.length c4) (.slice C5 S.out.length c5) (.slice C6 S.inp.length c6) { S with ret := S.ret.map lvl }) := Lib.hid (by have := OW.out; unfold levS at this; rw [levR_all] at this; exact this)
      obtain ⟨t0, t1, t2, t3, t4, t5, t6, t7, t8, t9⟩ := st_cells KB.out
      obtain ⟨r0, r1, r2, r3, r4, r5, r6, r7, r8, r9⟩ := st_cells KZ.out
      have fr := KZ.out.frozen
      have lr : w.heap.size + 1 < wr.heap.size := KZ.out.lt
      have lb : w.heap.size < wr.heap.size := KB.out.lt
      clear OW hri b1
      have hp2 : ¬ (S.ret.length : Int) < (S.ret.length : Int) := by omega
      go_wp2_with fail
      have kr := KZ.out
      show bodyPost _ _ _ _ _ (putSt wr (w.heap.size + 1) (.slice C0 S.data.length c0) (.slice C1 S.ret.length c1) (.int .i32 S.a) (.slice C2 S.mem.length c2) (.slice C3 S.cells.length c3) (.slice C4 S.vars.length c4) (.slice C5 S.out.length c5) (.slice C6 S.inp.length c6) (.int .i64 S.fault) (.int .i64 S.fuel))
      have y1 := putSt_blk kr (.slice C0 S.data.length c0) (.slice C1 S.ret.length c1) (.int .i32 S.a) (.slice C2 S.mem.length c2) (.slice C3 S.cells.length c3) (.slice C4 S.vars.length c4) (.slice C5 S.out.length c5) (.slice C6 S.inp.length c6) (.int .i64 S.fault) (.int .i64 S.fuel)
      have y2 := (BB.out).grown (putSt_only wr (w.heap.size + 1) (.slice C0 S.data.length c0) (.slice C1 S.ret.length c1) (.int .i32 S.a) (.slice C2 S.mem.length c2) (.slice C3 S.cells.length c3) (.slice C4 S.vars.length c4) (.slice C5 S.out.length c5) (.slice C6 S.inp.length c6) (.int .i64 S.fault) (.int .i64 S.fuel)) (BB.out).size (fun k hk => by injection hk with hk; omega)
      have y3 := OwnSt.setSt OWE.out (g := w.heap.size + 1) (.inl (by have := HLO.out; omega)) (.slice C0 S.data.length c0) (.slice C1 S.ret.length c1) (.int .i32 S.a) (.slice C2 S.mem.length c2) (.slice C3 S.cells.length c3) (.slice C4 S.vars.length c4) (.slice C5 S.out.length c5) (.slice C6 S.inp.length c6) (.int .i64 S.fault) (.int .i64 S.fuel)
      have y4 := putSt_size wr (w.heap.size + 1) (.slice C0 S.data.length c0) (.slice C1 S.ret.length c1) (.int .i32 S.a) (.slice C2 S.mem.length c2) (.slice C3 S.cells.length c3) (.slice C4 S.vars.length c4) (.slice C5 S.out.length c5) (.slice C6 S.inp.length c6) (.int .i64 S.fault) (.int .i64 S.fuel)
      generalize putSt wr (w.heap.size + 1) (.slice C0 S.data.length c0) (.slice C1 S.ret.length c1) (.int .i32 S.a) (.slice C2 S.mem.length c2) (.slice C3 S.cells.length c3) (.slice C4 S.vars.length c4) (.slice C5 S.out.length c5) (.slice C6 S.inp.length c6) (.int .i64 S.fault) (.int .i64 S.fuel) = W at y1 y2 y3 y4 ⊢
      obtain ⟨z0, z1, z2, z3, z4, z5, z6, z7, z8, z9⟩ := st_cells y1
      have OWF : Hid (NewSt w { S with ret := S.ret.map lvl } (.returned (.agg #[.slice C0 S.data.length c0, .slice C1 S.ret.length c1, .int .i32 S.a, .slice C2 S.mem.length c2, .slice C3 S.cells.length c3, .slice C4 S.vars.length c4, .slice C5 S.out.length c5, .slice C6 S.inp.length c6, .int .i64 S.fault, .int .i64 S.fuel])) W) := Lib.hid (newst_of (lo := LO) (hi := HI) y3 (by have := HLO.out; omega) (by rw [y4]; exact HS.out) y2)
      exact bodyPost_ret (v := .agg #[.slice C0 S.data.length c0, .slice C1 S.ret.length c1, .int .i32 S.a, .slice C2 S.mem.length c2, .slice C3 S.cells.length c3, .slice C4 S.vars.length c4, .slice C5 S.out.length c5, .slice C6 S.inp.length c6, .int .i64 S.fault, .int .i64 S.fuel]) (by simp [results, Try.results37, z0, z1, z2, z3, z4, z5, z6, z7, z8, z9, go_sem]) rfl OWF.out
theorem spec_level (d r m c v o i : Value) (S : S8) (hs : totSt S ≤ 2500000) (w : World) (hr : RdSt w d r m c v o i S) : Calls Try.prog 35 #[.agg #[d, r, .int .i32 S.a, m, c, v, o, i, .int .i64 S.fault, .int .i64 S.fuel]] w (NewSt w (level8 S)) := by
  cases hk : ok8 S with
  | false =>
    rw [show level8 S = zero8 by unfold level8; rw [if_neg (by rw [hk]; decide)]]
    exact slevel_no d r m c v o i S hs w hr hk
  | true =>
    rw [show level8 S = { S with ret := S.ret.map lvl } by unfold level8; rw [if_pos hk]]
    exact slevel_yes d r m c v o i S hs w hr hk
theorem impl_level (d r m c v o i : Value) (S : S8) (hs : totSt S ≤ 2500000) (w : World) (hr : RdSt w d r m c v o i S) : Calls Try.prog 37 #[.agg #[d, r, .int .i32 S.a, m, c, v, o, i, .int .i64 S.fault, .int .i64 S.fuel]] w (NewSt w (level8 S)) := by
  cases hk : ok8 S with
  | false =>
    rw [show level8 S = zero8 by unfold level8; rw [if_neg (by rw [hk]; decide)]]
    exact ilevel_no d r m c v o i S hs w hr hk
  | true =>
    rw [show level8 S = { S with ret := S.ret.map lvl } by unfold level8; rw [if_pos hk]]
    exact ilevel_yes d r m c v o i S hs w hr hk
end Go.Proofs.Ytlkkobffgbjkpaa
