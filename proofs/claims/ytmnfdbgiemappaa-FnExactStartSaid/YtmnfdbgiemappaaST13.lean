/-
  impl.walkerOf.
  (*bench).write: bytes put on Out.
  Bytes written: how a word ends.
  The word push on a bench.
  (*bench).putSlot as a part of a step.
-/
import Derived.Test.YtmnfdbgiemappaaST9
import Derived.Test.YtmnfdbgiemappaaST10
import Derived.Test.YtmnfdbgiemappaaST11
import Derived.Test.YtmnfdbgiemappaaST12
import Derived.Test.YtmnfdbgiemappaaST7
import Derived.Test.YtmnfdbgiemappaaST6
namespace Go.Proofs.Ytmnfdbgiemappaa
open Go.RowKit Go

/-- The answer of walkerOf: a walker with lists of its own. -/
def WalkEnd (w : World) (cv : Value) (p : Int) (dn : Bool) (S : S8) (e : Ending) (w' : World) : Prop :=
  ∃ d r m c v o i, e = .returned (.tuple #[.agg #[d, r, .int .i32 S.a, m, c, v, o, i, .int .i64 S.fault, .int .i64 S.fuel, cv, .int .i64 p, .bool dn], .bool true]) ∧ OwnSt w' w.heap.size w'.heap.size d r m c v o i S ∧ Below w.heap.size w w'
def NoWalk (w : World) (e : Ending) (w' : World) : Prop := e = .returned (.tuple #[.agg #[.slice none 0 0, .slice none 0 0, .int .i32 0, .slice none 0 0, .slice none 0 0, .slice none 0 0, .slice none 0 0, .slice none 0 0, .int .i64 0, .int .i64 0, .slice none 0 0, .int .i64 0, .bool false], .bool false]) ∧ Below w.heap.size w w'
set_option maxRecDepth 100000 in
set_option maxHeartbeats 4000000 in
theorem walkerof_no1 (code : List (Int × Int)) (hrg : RngC code) (C : Option Addr) (cc : Nat) (p : Int) (dn : Bool) (d r m c v o i : Value) (S : S8) (_hs : totSt S ≤ 2500000) (w : World) (hc : RdIc w (.slice C code.length cc) code) (hr : RdSt w d r m c v o i S) (h1 : codeOk code = false) : Calls Try.prog 32 #[.slice C code.length cc, .agg #[d, r, .int .i32 S.a, m, c, v, o, i, .int .i64 S.fault, .int .i64 S.fuel, .int .i64 p, .bool dn]] w (NoWalk w) := by
  obtain ⟨⟨A0, a0, rfl⟩, ⟨A1, a1, rfl⟩, ⟨A2, a2, rfl⟩, ⟨A3, a3, rfl⟩, ⟨A4, a4, rfl⟩, ⟨A5, a5, rfl⟩, ⟨A6, a6, rfl⟩⟩ := hr.form
  have KB : Hid (Blk ((w.alloc (.cells #[.slice A0 S.data.length a0, .slice A1 S.ret.length a1, .int .i32 S.a, .slice A2 S.mem.length a2, .slice A3 S.cells.length a3, .slice A4 S.vars.length a4, .slice A5 S.out.length a5, .slice A6 S.inp.length a6, .int .i64 S.fault, .int .i64 S.fuel, .int .i64 p, .bool dn] 36)).alloc (.cells #[.slice none 0 0, .slice none 0 0, .int .i32 0, .slice none 0 0, .slice none 0 0, .slice none 0 0, .slice none 0 0, .slice none 0 0, .int .i64 0, .int .i64 0, .slice none 0 0, .int .i64 0, .bool false] 70)) w.heap.size 36 #[.slice A0 S.data.length a0, .slice A1 S.ret.length a1, .int .i32 S.a, .slice A2 S.mem.length a2, .slice A3 S.cells.length a3, .slice A4 S.vars.length a4, .slice A5 S.out.length a5, .slice A6 S.inp.length a6, .int .i64 S.fault, .int .i64 S.fuel, .int .i64 p, .bool dn]) := Lib.hid ((Blk.new w _ _).alloc _)
  have KR : Hid (Blk ((w.alloc (.cells #[.slice A0 S.data.length a0, .slice A1 S.ret.length a1, .int .i32 S.a, .slice A2 S.mem.length a2, .slice A3 S.cells.length a3, .slice A4 S.vars.length a4, .slice A5 S.out.length a5, .slice A6 S.inp.length a6, .int .i64 S.fault, .int .i64 S.fuel, .int .i64 p, .bool dn] 36)).alloc (.cells #[.slice none 0 0, .slice none 0 0, .int .i32 0, .slice none 0 0, .slice none 0 0, .slice none 0 0, .slice none 0 0, .slice none 0 0, .int .i64 0, .int .i64 0, .slice none 0 0, .int .i64 0, .bool false] 70)) (w.heap.size + 1) 70 #[.slice none 0 0, .slice none 0 0, .int .i32 0, .slice none 0 0, .slice none 0 0, .slice none 0 0, .slice none 0 0, .slice none 0 0, .int .i64 0, .int .i64 0, .slice none 0 0, .int .i64 0, .bool false]) := Lib.hid (by have := Blk.new (w.alloc (.cells #[.slice A0 S.data.length a0, .slice A1 S.ret.length a1, .int .i32 S.a, .slice A2 S.mem.length a2, .slice A3 S.cells.length a3, .slice A4 S.vars.length a4, .slice A5 S.out.length a5, .slice A6 S.inp.length a6, .int .i64 S.fault, .int .i64 S.fuel, .int .i64 p, .bool dn] 36)) 70 #[.slice none 0 0, .slice none 0 0, .int .i32 0, .slice none 0 0, .slice none 0 0, .slice none 0 0, .slice none 0 0, .slice none 0 0, .int .i64 0, .int .i64 0, .slice none 0 0, .int .i64 0, .bool false]; rw [World.size_alloc] at this; exact this)
  have B0 : Hid (Below w.heap.size w ((w.alloc (.cells #[.slice A0 S.data.length a0, .slice A1 S.ret.length a1, .int .i32 S.a, .slice A2 S.mem.length a2, .slice A3 S.cells.length a3, .slice A4 S.vars.length a4, .slice A5 S.out.length a5, .slice A6 S.inp.length a6, .int .i64 S.fault, .int .i64 S.fuel, .int .i64 p, .bool dn] 36)).alloc (.cells #[.slice none 0 0, .slice none 0 0, .int .i32 0, .slice none 0 0, .slice none 0 0, .slice none 0 0, .slice none 0 0, .slice none 0 0, .int .i64 0, .int .i64 0, .slice none 0 0, .int .i64 0, .bool false] 70))) := Lib.hid (below_alloc2 w _ _)
  have HC := Lib.hid (fun W (h : Below w.heap.size w W) => impl_codeok code hrg _ W (hc.below h))
  have HK := Lib.hid (fun W (h : Below w.heap.size w W) => impl_stok _ _ _ _ _ _ _ S W (hr.below h))
  rw [h1] at HC
  clear hr hc hrg _hs HK h1
  go_enter Try.func32, Try.ntmps32
  go_wp2_with fail
  refine (HC.out _ B0.out).mono ?_
  rintro e w1 ⟨rfl, hb1⟩
  have sz1 : w.heap.size + 2 ≤ w1.heap.size := by have := hb1.size; simpa using this
  have HB1 := Lib.hid (B0.out.trans (hb1.mono B0.out.size))
  have KR1 := Lib.hid (KR.out.below hb1 KR.out.lt)
  have KB1 := Lib.hid (KB.out.below hb1 KB.out.lt)
  clear hb1 KB KR B0 HC
  obtain ⟨r0, r1, r2, r3, r4, r5, r6, r7, r8, r9, r10, r11, r12⟩ := walk_cells KR1.out
  have lr : w.heap.size + 1 < w1.heap.size := KR1.out.lt
  have fr := KR1.out.frozen
  go_wp2_with fail
  show bodyPost _ _ _ _ _ (putW w1 (w.heap.size + 1) (.slice none 0 0) (.slice none 0 0) (.int .i32 0) (.slice none 0 0) (.slice none 0 0) (.slice none 0 0) (.slice none 0 0) (.slice none 0 0) (.int .i64 0) (.int .i64 0) (.slice none 0 0) (.int .i64 0) (.bool false))
  have y1 := putW_blk KR1.out (.slice none 0 0) (.slice none 0 0) (.int .i32 0) (.slice none 0 0) (.slice none 0 0) (.slice none 0 0) (.slice none 0 0) (.slice none 0 0) (.int .i64 0) (.int .i64 0) (.slice none 0 0) (.int .i64 0) (.bool false)
  have y2 := HB1.out.grown (putW_only w1 (w.heap.size + 1) (.slice none 0 0) (.slice none 0 0) (.int .i32 0) (.slice none 0 0) (.slice none 0 0) (.slice none 0 0) (.slice none 0 0) (.slice none 0 0) (.int .i64 0) (.int .i64 0) (.slice none 0 0) (.int .i64 0) (.bool false)) HB1.out.size (fun k hk => by injection hk with hk; omega)
  generalize putW w1 (w.heap.size + 1) (.slice none 0 0) (.slice none 0 0) (.int .i32 0) (.slice none 0 0) (.slice none 0 0) (.slice none 0 0) (.slice none 0 0) (.slice none 0 0) (.int .i64 0) (.int .i64 0) (.slice none 0 0) (.int .i64 0) (.bool false) = W at y1 y2 ⊢
  obtain ⟨z0, z1, z2, z3, z4, z5, z6, z7, z8, z9, z10, z11, z12⟩ := walk_cells y1
  exact bodyPost_ret (v := .tuple #[.agg #[.slice none 0 0, .slice none 0 0, .int .i32 0, .slice none 0 0, .slice none 0 0, .slice none 0 0, .slice none 0 0, .slice none 0 0, .int .i64 0, .int .i64 0, .slice none 0 0, .int .i64 0, .bool false], .bool false]) (by simp [results, Try.results32, z0, z1, z2, z3, z4, z5, z6, z7, z8, z9, z10, z11, z12, go_sem]) rfl ⟨rfl, y2⟩

set_option maxRecDepth 100000 in
set_option maxHeartbeats 4000000 in
theorem walkerof_no2 (code : List (Int × Int)) (hrg : RngC code) (C : Option Addr) (cc : Nat) (p : Int) (dn : Bool) (d r m c v o i : Value) (S : S8) (_hs : totSt S ≤ 2500000) (w : World) (hc : RdIc w (.slice C code.length cc) code) (hr : RdSt w d r m c v o i S) (h1 : codeOk code = true) (h2 : inCode code.length p = false) : Calls Try.prog 32 #[.slice C code.length cc, .agg #[d, r, .int .i32 S.a, m, c, v, o, i, .int .i64 S.fault, .int .i64 S.fuel, .int .i64 p, .bool dn]] w (NoWalk w) := by
  obtain ⟨⟨A0, a0, rfl⟩, ⟨A1, a1, rfl⟩, ⟨A2, a2, rfl⟩, ⟨A3, a3, rfl⟩, ⟨A4, a4, rfl⟩, ⟨A5, a5, rfl⟩, ⟨A6, a6, rfl⟩⟩ := hr.form
  have KB : Hid (Blk ((w.alloc (.cells #[.slice A0 S.data.length a0, .slice A1 S.ret.length a1, .int .i32 S.a, .slice A2 S.mem.length a2, .slice A3 S.cells.length a3, .slice A4 S.vars.length a4, .slice A5 S.out.length a5, .slice A6 S.inp.length a6, .int .i64 S.fault, .int .i64 S.fuel, .int .i64 p, .bool dn] 36)).alloc (.cells #[.slice none 0 0, .slice none 0 0, .int .i32 0, .slice none 0 0, .slice none 0 0, .slice none 0 0, .slice none 0 0, .slice none 0 0, .int .i64 0, .int .i64 0, .slice none 0 0, .int .i64 0, .bool false] 70)) w.heap.size 36 #[.slice A0 S.data.length a0, .slice A1 S.ret.length a1, .int .i32 S.a, .slice A2 S.mem.length a2, .slice A3 S.cells.length a3, .slice A4 S.vars.length a4, .slice A5 S.out.length a5, .slice A6 S.inp.length a6, .int .i64 S.fault, .int .i64 S.fuel, .int .i64 p, .bool dn]) := Lib.hid ((Blk.new w _ _).alloc _)
  have KR : Hid (Blk ((w.alloc (.cells #[.slice A0 S.data.length a0, .slice A1 S.ret.length a1, .int .i32 S.a, .slice A2 S.mem.length a2, .slice A3 S.cells.length a3, .slice A4 S.vars.length a4, .slice A5 S.out.length a5, .slice A6 S.inp.length a6, .int .i64 S.fault, .int .i64 S.fuel, .int .i64 p, .bool dn] 36)).alloc (.cells #[.slice none 0 0, .slice none 0 0, .int .i32 0, .slice none 0 0, .slice none 0 0, .slice none 0 0, .slice none 0 0, .slice none 0 0, .int .i64 0, .int .i64 0, .slice none 0 0, .int .i64 0, .bool false] 70)) (w.heap.size + 1) 70 #[.slice none 0 0, .slice none 0 0, .int .i32 0, .slice none 0 0, .slice none 0 0, .slice none 0 0, .slice none 0 0, .slice none 0 0, .int .i64 0, .int .i64 0, .slice none 0 0, .int .i64 0, .bool false]) := Lib.hid (by have := Blk.new (w.alloc (.cells #[.slice A0 S.data.length a0, .slice A1 S.ret.length a1, .int .i32 S.a, .slice A2 S.mem.length a2, .slice A3 S.cells.length a3, .slice A4 S.vars.length a4, .slice A5 S.out.length a5, .slice A6 S.inp.length a6, .int .i64 S.fault, .int .i64 S.fuel, .int .i64 p, .bool dn] 36)) 70 #[.slice none 0 0, .slice none 0 0, .int .i32 0, .slice none 0 0, .slice none 0 0, .slice none 0 0, .slice none 0 0, .slice none 0 0, .int .i64 0, .int .i64 0, .slice none 0 0, .int .i64 0, .bool false]; rw [World.size_alloc] at this; exact this)
  have B0 : Hid (Below w.heap.size w ((w.alloc (.cells #[.slice A0 S.data.length a0, .slice A1 S.ret.length a1, .int .i32 S.a, .slice A2 S.mem.length a2, .slice A3 S.cells.length a3, .slice A4 S.vars.length a4, .slice A5 S.out.length a5, .slice A6 S.inp.length a6, .int .i64 S.fault, .int .i64 S.fuel, .int .i64 p, .bool dn] 36)).alloc (.cells #[.slice none 0 0, .slice none 0 0, .int .i32 0, .slice none 0 0, .slice none 0 0, .slice none 0 0, .slice none 0 0, .slice none 0 0, .int .i64 0, .int .i64 0, .slice none 0 0, .int .i64 0, .bool false] 70))) := Lib.hid (below_alloc2 w _ _)
  have HC := Lib.hid (fun W (h : Below w.heap.size w W) => impl_codeok code hrg _ W (hc.below h))
  have HK := Lib.hid (fun W (h : Below w.heap.size w W) => impl_stok _ _ _ _ _ _ _ S W (hr.below h))
  rw [h1] at HC
  have HP := Lib.hid (fun W => isplace_any C code.length cc p W)
  rw [h2] at HP
  clear hr hc hrg _hs HK h1 h2
  go_enter Try.func32, Try.ntmps32
  go_wp2_with fail
  refine (HC.out _ B0.out).mono ?_
  rintro e w1 ⟨rfl, hb1⟩
  have sz1 : w.heap.size + 2 ≤ w1.heap.size := by have := hb1.size; simpa using this
  have HB1 := Lib.hid (B0.out.trans (hb1.mono B0.out.size))
  have KR1 := Lib.hid (KR.out.below hb1 KR.out.lt)
  have KB1 := Lib.hid (KB.out.below hb1 KB.out.lt)
  clear hb1 KB KR B0 HC
  obtain ⟨c0, c1, c2, c3, c4, c5, c6, c7, c8, c9, c10, c11⟩ := mach_cells KB1.out
  have lc : w.heap.size < w1.heap.size := KB1.out.lt
  go_wp2_with fail
  refine (HP.out _).mono ?_
  rintro e w2 ⟨rfl, rfl⟩
  clear HP KB1 c0 c1 c2 c3 c4 c5 c6 c7 c8 c9 c10 c11 lc
  obtain ⟨r0, r1, r2, r3, r4, r5, r6, r7, r8, r9, r10, r11, r12⟩ := walk_cells KR1.out
  have lr : w.heap.size + 1 < w1.heap.size := KR1.out.lt
  have fr := KR1.out.frozen
  go_wp2_with fail
  show bodyPost _ _ _ _ _ (putW w1 (w.heap.size + 1) (.slice none 0 0) (.slice none 0 0) (.int .i32 0) (.slice none 0 0) (.slice none 0 0) (.slice none 0 0) (.slice none 0 0) (.slice none 0 0) (.int .i64 0) (.int .i64 0) (.slice none 0 0) (.int .i64 0) (.bool false))
  have y1 := putW_blk KR1.out (.slice none 0 0) (.slice none 0 0) (.int .i32 0) (.slice none 0 0) (.slice none 0 0) (.slice none 0 0) (.slice none 0 0) (.slice none 0 0) (.int .i64 0) (.int .i64 0) (.slice none 0 0) (.int .i64 0) (.bool false)
  have y2 := HB1.out.grown (putW_only w1 (w.heap.size + 1) (.slice none 0 0) (.slice none 0 0) (.int .i32 0) (.slice none 0 0) (.slice none 0 0) (.slice none 0 0) (.slice none 0 0) (.slice none 0 0) (.int .i64 0) (.int .i64 0) (.slice none 0 0) (.int .i64 0) (.bool false)) HB1.out.size (fun k hk => by injection hk with hk; omega)
  generalize putW w1 (w.heap.size + 1) (.slice none 0 0) (.slice none 0 0) (.int .i32 0) (.slice none 0 0) (.slice none 0 0) (.slice none 0 0) (.slice none 0 0) (.slice none 0 0) (.int .i64 0) (.int .i64 0) (.slice none 0 0) (.int .i64 0) (.bool false) = W at y1 y2 ⊢
  obtain ⟨z0, z1, z2, z3, z4, z5, z6, z7, z8, z9, z10, z11, z12⟩ := walk_cells y1
  exact bodyPost_ret (v := .tuple #[.agg #[.slice none 0 0, .slice none 0 0, .int .i32 0, .slice none 0 0, .slice none 0 0, .slice none 0 0, .slice none 0 0, .slice none 0 0, .int .i64 0, .int .i64 0, .slice none 0 0, .int .i64 0, .bool false], .bool false]) (by simp [results, Try.results32, z0, z1, z2, z3, z4, z5, z6, z7, z8, z9, z10, z11, z12, go_sem]) rfl ⟨rfl, y2⟩

set_option maxRecDepth 100000 in
set_option maxHeartbeats 4000000 in
theorem walkerof_no3 (code : List (Int × Int)) (hrg : RngC code) (C : Option Addr) (cc : Nat) (p : Int) (dn : Bool) (d r m c v o i : Value) (S : S8) (_hs : totSt S ≤ 2500000) (w : World) (hc : RdIc w (.slice C code.length cc) code) (hr : RdSt w d r m c v o i S) (h1 : codeOk code = true) (h2 : inCode code.length p = true) (h3 : ok8 S = false) : Calls Try.prog 32 #[.slice C code.length cc, .agg #[d, r, .int .i32 S.a, m, c, v, o, i, .int .i64 S.fault, .int .i64 S.fuel, .int .i64 p, .bool dn]] w (NoWalk w) := by
  obtain ⟨⟨A0, a0, rfl⟩, ⟨A1, a1, rfl⟩, ⟨A2, a2, rfl⟩, ⟨A3, a3, rfl⟩, ⟨A4, a4, rfl⟩, ⟨A5, a5, rfl⟩, ⟨A6, a6, rfl⟩⟩ := hr.form
  have KB : Hid (Blk ((w.alloc (.cells #[.slice A0 S.data.length a0, .slice A1 S.ret.length a1, .int .i32 S.a, .slice A2 S.mem.length a2, .slice A3 S.cells.length a3, .slice A4 S.vars.length a4, .slice A5 S.out.length a5, .slice A6 S.inp.length a6, .int .i64 S.fault, .int .i64 S.fuel, .int .i64 p, .bool dn] 36)).alloc (.cells #[.slice none 0 0, .slice none 0 0, .int .i32 0, .slice none 0 0, .slice none 0 0, .slice none 0 0, .slice none 0 0, .slice none 0 0, .int .i64 0, .int .i64 0, .slice none 0 0, .int .i64 0, .bool false] 70)) w.heap.size 36 #[.slice A0 S.data.length a0, .slice A1 S.ret.length a1, .int .i32 S.a, .slice A2 S.mem.length a2, .slice A3 S.cells.length a3, .slice A4 S.vars.length a4, .slice A5 S.out.length a5, .slice A6 S.inp.length a6, .int .i64 S.fault, .int .i64 S.fuel, .int .i64 p, .bool dn]) := Lib.hid ((Blk.new w _ _).alloc _)
  have KR : Hid (Blk ((w.alloc (.cells #[.slice A0 S.data.length a0, .slice A1 S.ret.length a1, .int .i32 S.a, .slice A2 S.mem.length a2, .slice A3 S.cells.length a3, .slice A4 S.vars.length a4, .slice A5 S.out.length a5, .slice A6 S.inp.length a6, .int .i64 S.fault, .int .i64 S.fuel, .int .i64 p, .bool dn] 36)).alloc (.cells #[.slice none 0 0, .slice none 0 0, .int .i32 0, .slice none 0 0, .slice none 0 0, .slice none 0 0, .slice none 0 0, .slice none 0 0, .int .i64 0, .int .i64 0, .slice none 0 0, .int .i64 0, .bool false] 70)) (w.heap.size + 1) 70 #[.slice none 0 0, .slice none 0 0, .int .i32 0, .slice none 0 0, .slice none 0 0, .slice none 0 0, .slice none 0 0, .slice none 0 0, .int .i64 0, .int .i64 0, .slice none 0 0, .int .i64 0, .bool false]) := Lib.hid (by have := Blk.new (w.alloc (.cells #[.slice A0 S.data.length a0, .slice A1 S.ret.length a1, .int .i32 S.a, .slice A2 S.mem.length a2, .slice A3 S.cells.length a3, .slice A4 S.vars.length a4, .slice A5 S.out.length a5, .slice A6 S.inp.length a6, .int .i64 S.fault, .int .i64 S.fuel, .int .i64 p, .bool dn] 36)) 70 #[.slice none 0 0, .slice none 0 0, .int .i32 0, .slice none 0 0, .slice none 0 0, .slice none 0 0, .slice none 0 0, .slice none 0 0, .int .i64 0, .int .i64 0, .slice none 0 0, .int .i64 0, .bool false]; rw [World.size_alloc] at this; exact this)
  have B0 : Hid (Below w.heap.size w ((w.alloc (.cells #[.slice A0 S.data.length a0, .slice A1 S.ret.length a1, .int .i32 S.a, .slice A2 S.mem.length a2, .slice A3 S.cells.length a3, .slice A4 S.vars.length a4, .slice A5 S.out.length a5, .slice A6 S.inp.length a6, .int .i64 S.fault, .int .i64 S.fuel, .int .i64 p, .bool dn] 36)).alloc (.cells #[.slice none 0 0, .slice none 0 0, .int .i32 0, .slice none 0 0, .slice none 0 0, .slice none 0 0, .slice none 0 0, .slice none 0 0, .int .i64 0, .int .i64 0, .slice none 0 0, .int .i64 0, .bool false] 70))) := Lib.hid (below_alloc2 w _ _)
  have HC := Lib.hid (fun W (h : Below w.heap.size w W) => impl_codeok code hrg _ W (hc.below h))
  have HK := Lib.hid (fun W (h : Below w.heap.size w W) => impl_stok _ _ _ _ _ _ _ S W (hr.below h))
  rw [h1] at HC
  have HP := Lib.hid (fun W => isplace_any C code.length cc p W)
  rw [h2] at HP
  rw [h3] at HK
  clear hr hc hrg _hs h1 h2 h3
  go_enter Try.func32, Try.ntmps32
  go_wp2_with fail
  refine (HC.out _ B0.out).mono ?_
  rintro e w1 ⟨rfl, hb1⟩
  have sz1 : w.heap.size + 2 ≤ w1.heap.size := by have := hb1.size; simpa using this
  have HB1 := Lib.hid (B0.out.trans (hb1.mono B0.out.size))
  have KR1 := Lib.hid (KR.out.below hb1 KR.out.lt)
  have KB1 := Lib.hid (KB.out.below hb1 KB.out.lt)
  clear hb1 KB KR B0 HC
  obtain ⟨c0, c1, c2, c3, c4, c5, c6, c7, c8, c9, c10, c11⟩ := mach_cells KB1.out
  have lc : w.heap.size < w1.heap.size := KB1.out.lt
  go_wp2_with fail
  refine (HP.out _).mono ?_
  rintro e w2 ⟨rfl, rfl⟩
  go_wp2_with fail
  refine (HK.out _ HB1.out).mono ?_
  rintro e w2 ⟨rfl, hb2⟩
  have sz2 : w1.heap.size ≤ w2.heap.size := hb2.size
  have HB2 := Lib.hid (HB1.out.trans (hb2.mono HB1.out.size))
  have KR2 := Lib.hid (KR1.out.below hb2 KR1.out.lt)
  clear HP HK KB1 KR1 HB1 hb2 c0 c1 c2 c3 c4 c5 c6 c7 c8 c9 c10 c11 lc
  obtain ⟨r0, r1, r2, r3, r4, r5, r6, r7, r8, r9, r10, r11, r12⟩ := walk_cells KR2.out
  have lr : w.heap.size + 1 < w2.heap.size := KR2.out.lt
  have fr := KR2.out.frozen
  go_wp2_with fail
  show bodyPost _ _ _ _ _ (putW w2 (w.heap.size + 1) (.slice none 0 0) (.slice none 0 0) (.int .i32 0) (.slice none 0 0) (.slice none 0 0) (.slice none 0 0) (.slice none 0 0) (.slice none 0 0) (.int .i64 0) (.int .i64 0) (.slice none 0 0) (.int .i64 0) (.bool false))
  have y1 := putW_blk KR2.out (.slice none 0 0) (.slice none 0 0) (.int .i32 0) (.slice none 0 0) (.slice none 0 0) (.slice none 0 0) (.slice none 0 0) (.slice none 0 0) (.int .i64 0) (.int .i64 0) (.slice none 0 0) (.int .i64 0) (.bool false)
  have y2 := HB2.out.grown (putW_only w2 (w.heap.size + 1) (.slice none 0 0) (.slice none 0 0) (.int .i32 0) (.slice none 0 0) (.slice none 0 0) (.slice none 0 0) (.slice none 0 0) (.slice none 0 0) (.int .i64 0) (.int .i64 0) (.slice none 0 0) (.int .i64 0) (.bool false)) HB2.out.size (fun k hk => by injection hk with hk; omega)
  generalize putW w2 (w.heap.size + 1) (.slice none 0 0) (.slice none 0 0) (.int .i32 0) (.slice none 0 0) (.slice none 0 0) (.slice none 0 0) (.slice none 0 0) (.slice none 0 0) (.int .i64 0) (.int .i64 0) (.slice none 0 0) (.int .i64 0) (.bool false) = W at y1 y2 ⊢
  obtain ⟨z0, z1, z2, z3, z4, z5, z6, z7, z8, z9, z10, z11, z12⟩ := walk_cells y1
  exact bodyPost_ret (v := .tuple #[.agg #[.slice none 0 0, .slice none 0 0, .int .i32 0, .slice none 0 0, .slice none 0 0, .slice none 0 0, .slice none 0 0, .slice none 0 0, .int .i64 0, .int .i64 0, .slice none 0 0, .int .i64 0, .bool false], .bool false]) (by simp [results, Try.results32, z0, z1, z2, z3, z4, z5, z6, z7, z8, z9, z10, z11, z12, go_sem]) rfl ⟨rfl, y2⟩

set_option maxRecDepth 100000 in
set_option maxHeartbeats 4000000 in
theorem walkerof_yes (code : List (Int × Int)) (hrg : RngC code) (C : Option Addr) (cc : Nat) (p : Int) (dn : Bool) (d r m c v o i : Value) (S : S8) (hs : totSt S ≤ 2500000) (w : World) (hc : RdIc w (.slice C code.length cc) code) (hr : RdSt w d r m c v o i S) (h1 : codeOk code = true) (h2 : inCode code.length p = true) (h3 : ok8 S = true) : Calls Try.prog 32 #[.slice C code.length cc, .agg #[d, r, .int .i32 S.a, m, c, v, o, i, .int .i64 S.fault, .int .i64 S.fuel, .int .i64 p, .bool dn]] w (WalkEnd w (.slice C code.length cc) p dn S) := by
  obtain ⟨⟨A0, a0, rfl⟩, ⟨A1, a1, rfl⟩, ⟨A2, a2, rfl⟩, ⟨A3, a3, rfl⟩, ⟨A4, a4, rfl⟩, ⟨A5, a5, rfl⟩, ⟨A6, a6, rfl⟩⟩ := hr.form
  have KB : Hid (Blk ((w.alloc (.cells #[.slice A0 S.data.length a0, .slice A1 S.ret.length a1, .int .i32 S.a, .slice A2 S.mem.length a2, .slice A3 S.cells.length a3, .slice A4 S.vars.length a4, .slice A5 S.out.length a5, .slice A6 S.inp.length a6, .int .i64 S.fault, .int .i64 S.fuel, .int .i64 p, .bool dn] 36)).alloc (.cells #[.slice none 0 0, .slice none 0 0, .int .i32 0, .slice none 0 0, .slice none 0 0, .slice none 0 0, .slice none 0 0, .slice none 0 0, .int .i64 0, .int .i64 0, .slice none 0 0, .int .i64 0, .bool false] 70)) w.heap.size 36 #[.slice A0 S.data.length a0, .slice A1 S.ret.length a1, .int .i32 S.a, .slice A2 S.mem.length a2, .slice A3 S.cells.length a3, .slice A4 S.vars.length a4, .slice A5 S.out.length a5, .slice A6 S.inp.length a6, .int .i64 S.fault, .int .i64 S.fuel, .int .i64 p, .bool dn]) := Lib.hid ((Blk.new w _ _).alloc _)
  have KR : Hid (Blk ((w.alloc (.cells #[.slice A0 S.data.length a0, .slice A1 S.ret.length a1, .int .i32 S.a, .slice A2 S.mem.length a2, .slice A3 S.cells.length a3, .slice A4 S.vars.length a4, .slice A5 S.out.length a5, .slice A6 S.inp.length a6, .int .i64 S.fault, .int .i64 S.fuel, .int .i64 p, .bool dn] 36)).alloc (.cells #[.slice none 0 0, .slice none 0 0, .int .i32 0, .slice none 0 0, .slice none 0 0, .slice none 0 0, .slice none 0 0, .slice none 0 0, .int .i64 0, .int .i64 0, .slice none 0 0, .int .i64 0, .bool false] 70)) (w.heap.size + 1) 70 #[.slice none 0 0, .slice none 0 0, .int .i32 0, .slice none 0 0, .slice none 0 0, .slice none 0 0, .slice none 0 0, .slice none 0 0, .int .i64 0, .int .i64 0, .slice none 0 0, .int .i64 0, .bool false]) := Lib.hid (by have := Blk.new (w.alloc (.cells #[.slice A0 S.data.length a0, .slice A1 S.ret.length a1, .int .i32 S.a, .slice A2 S.mem.length a2, .slice A3 S.cells.length a3, .slice A4 S.vars.length a4, .slice A5 S.out.length a5, .slice A6 S.inp.length a6, .int .i64 S.fault, .int .i64 S.fuel, .int .i64 p, .bool dn] 36)) 70 #[.slice none 0 0, .slice none 0 0, .int .i32 0, .slice none 0 0, .slice none 0 0, .slice none 0 0, .slice none 0 0, .slice none 0 0, .int .i64 0, .int .i64 0, .slice none 0 0, .int .i64 0, .bool false]; rw [World.size_alloc] at this; exact this)
  have B0 : Hid (Below w.heap.size w ((w.alloc (.cells #[.slice A0 S.data.length a0, .slice A1 S.ret.length a1, .int .i32 S.a, .slice A2 S.mem.length a2, .slice A3 S.cells.length a3, .slice A4 S.vars.length a4, .slice A5 S.out.length a5, .slice A6 S.inp.length a6, .int .i64 S.fault, .int .i64 S.fuel, .int .i64 p, .bool dn] 36)).alloc (.cells #[.slice none 0 0, .slice none 0 0, .int .i32 0, .slice none 0 0, .slice none 0 0, .slice none 0 0, .slice none 0 0, .slice none 0 0, .int .i64 0, .int .i64 0, .slice none 0 0, .int .i64 0, .bool false] 70))) := Lib.hid (below_alloc2 w _ _)
  have HC := Lib.hid (fun W (h : Below w.heap.size w W) => impl_codeok code hrg _ W (hc.below h))
  have HK := Lib.hid (fun W (h : Below w.heap.size w W) => impl_stok _ _ _ _ _ _ _ S W (hr.below h))
  rw [h1] at HC
  have HP := Lib.hid (fun W => isplace_any C code.length cc p W)
  rw [h2] at HP
  rw [h3] at HK
  have HOW := Lib.hid (fun W (h : Below w.heap.size w W) => ownst_any _ _ _ _ _ _ _ S (by omega) W (hr.below h))
  have HT : Hid (totSt S ≤ 4000000) := Lib.hid (by omega)
  clear hr hc hrg hs h1 h2 h3
  go_enter Try.func32, Try.ntmps32
  go_wp2_with fail
  refine (HC.out _ B0.out).mono ?_
  rintro e w1 ⟨rfl, hb1⟩
  have sz1 : w.heap.size + 2 ≤ w1.heap.size := by have := hb1.size; simpa using this
  have HB1 := Lib.hid (B0.out.trans (hb1.mono B0.out.size))
  have KR1 := Lib.hid (KR.out.below hb1 KR.out.lt)
  have KB1 := Lib.hid (KB.out.below hb1 KB.out.lt)
  clear hb1 KB KR B0 HC
  obtain ⟨c0, c1, c2, c3, c4, c5, c6, c7, c8, c9, c10, c11⟩ := mach_cells KB1.out
  have lc : w.heap.size < w1.heap.size := KB1.out.lt
  go_wp2_with fail
  refine (HP.out _).mono ?_
  rintro e w2 ⟨rfl, rfl⟩
  go_wp2_with fail
  refine (HK.out _ HB1.out).mono ?_
  rintro e w2 ⟨rfl, hb2⟩
  have sz2 : w1.heap.size ≤ w2.heap.size := hb2.size
  have HB2 := Lib.hid (HB1.out.trans (hb2.mono HB1.out.size))
  have KR2 := Lib.hid (KR1.out.below hb2 KR1.out.lt)
  have KB2 := Lib.hid (KB1.out.below hb2 KB1.out.lt)
  clear HP HK KB1 KR1 HB1 hb2 c0 c1 c2 c3 c4 c5 c6 c7 c8 c9 c10 c11 lc
  obtain ⟨c0, c1, c2, c3, c4, c5, c6, c7, c8, c9, c10, c11⟩ := mach_cells KB2.out
  have lc : w.heap.size < w2.heap.size := KB2.out.lt
  have HD := Lib.hid (HB2.out.drew)
  clear HB2
  go_upto_region 3 with (fail)
  have hS0 := mach_cells KB2.out.drew
  clear c0 c1 c2 c3 c4 c5 c6 c7 c8 c9 c10 c11
  go_region_held3 (fun w' => w'.cell? ⟨w.heap.size, 0, none⟩ = some (.slice A0 S.data.length a0) ∧ w'.cell? ⟨w.heap.size, 1, none⟩ = some (.slice A1 S.ret.length a1) ∧ w'.cell? ⟨w.heap.size, 2, none⟩ = some (.int .i32 S.a) ∧ w'.cell? ⟨w.heap.size, 3, none⟩ = some (.slice A2 S.mem.length a2) ∧ w'.cell? ⟨w.heap.size, 4, none⟩ = some (.slice A3 S.cells.length a3) ∧ w'.cell? ⟨w.heap.size, 5, none⟩ = some (.slice A4 S.vars.length a4) ∧ w'.cell? ⟨w.heap.size, 6, none⟩ = some (.slice A5 S.out.length a5) ∧ w'.cell? ⟨w.heap.size, 7, none⟩ = some (.slice A6 S.inp.length a6) ∧ w'.cell? ⟨w.heap.size, 8, none⟩ = some (.int .i64 S.fault) ∧ w'.cell? ⟨w.heap.size, 9, none⟩ = some (.int .i64 S.fuel) ∧ w'.cell? ⟨w.heap.size, 10, none⟩ = some (.int .i64 p) ∧ w'.cell? ⟨w.heap.size, 11, none⟩ = some (.bool dn)) (first | (with_reducible exact hS0) | (with_reducible exact hS1) | (with_reducible exact hS2)) (first | (go_at_call 57; refine (HOW.out _ HD.out).mono ?_; rintro e w3 ⟨q0, q1, q2, q3, q4, q5, q6, rfl, ho3, hb3⟩; obtain ⟨⟨D0, d0, rfl⟩, ⟨D1, d1, rfl⟩, ⟨D2, d2, rfl⟩, ⟨D3, d3, rfl⟩, ⟨D4, d4, rfl⟩, ⟨D5, d5, rfl⟩, ⟨D6, d6, rfl⟩⟩ := ho3.form HT.out; have kb3 := Blk.below KB2.out.drew hb3 KB2.out.lt; have kr3 := Blk.below KR2.out.drew hb3 KR2.out.lt; have hS1 := mach_cells kb3; have hS2 := mach_cells (kb3.grown (putW_only w3 (w.heap.size + 1) (.slice D0 S.data.length d0) (.slice D1 S.ret.length d1) (.int .i32 S.a) (.slice D2 S.mem.length d2) (.slice D3 S.cells.length d3) (.slice D4 S.vars.length d4) (.slice D5 S.out.length d5) (.slice D6 S.inp.length d6) (.int .i64 S.fault) (.int .i64 S.fuel) (.slice C code.length cc) (.int .i64 p) (.bool dn)) (by simp)); unfold putW at hS2; obtain ⟨r0, r1, r2, r3, r4, r5, r6, r7, r8, r9, r10, r11, r12⟩ := walk_cells kr3; have lr : w.heap.size + 1 < w3.heap.size := kr3.lt; have fr := kr3.frozen; have HO3 := Lib.hid ho3; have KR3 := Lib.hid kr3; have HB3 := Lib.hid hb3; clear ho3 kb3 kr3 hb3))
  go_wp2_with fail
  clear hS0 hS1 hS2 r0 r1 r2 r3 r4 r5 r6 r7 r8 r9 r10 r11 r12 KB2 KR2
  show bodyPost _ _ _ _ _ (putW w3 (w.heap.size + 1) (.slice D0 S.data.length d0) (.slice D1 S.ret.length d1) (.int .i32 S.a) (.slice D2 S.mem.length d2) (.slice D3 S.cells.length d3) (.slice D4 S.vars.length d4) (.slice D5 S.out.length d5) (.slice D6 S.inp.length d6) (.int .i64 S.fault) (.int .i64 S.fuel) (.slice C code.length cc) (.int .i64 p) (.bool dn))
  have sz3 : w2.heap.size ≤ w3.heap.size := HB3.out.size
  have y1 := putW_blk KR3.out (.slice D0 S.data.length d0) (.slice D1 S.ret.length d1) (.int .i32 S.a) (.slice D2 S.mem.length d2) (.slice D3 S.cells.length d3) (.slice D4 S.vars.length d4) (.slice D5 S.out.length d5) (.slice D6 S.inp.length d6) (.int .i64 S.fault) (.int .i64 S.fuel) (.slice C code.length cc) (.int .i64 p) (.bool dn)
  have y2 := (HD.out.trans (HB3.out.mono HD.out.size)).grown (putW_only w3 (w.heap.size + 1) (.slice D0 S.data.length d0) (.slice D1 S.ret.length d1) (.int .i32 S.a) (.slice D2 S.mem.length d2) (.slice D3 S.cells.length d3) (.slice D4 S.vars.length d4) (.slice D5 S.out.length d5) (.slice D6 S.inp.length d6) (.int .i64 S.fault) (.int .i64 S.fuel) (.slice C code.length cc) (.int .i64 p) (.bool dn)) (HD.out.trans (HB3.out.mono HD.out.size)).size (fun k hk => by injection hk with hk; omega)
  have y3 := HO3.out.only (putW_only w3 (w.heap.size + 1) (.slice D0 S.data.length d0) (.slice D1 S.ret.length d1) (.int .i32 S.a) (.slice D2 S.mem.length d2) (.slice D3 S.cells.length d3) (.slice D4 S.vars.length d4) (.slice D5 S.out.length d5) (.slice D6 S.inp.length d6) (.int .i64 S.fault) (.int .i64 S.fuel) (.slice C code.length cc) (.int .i64 p) (.bool dn)) (.inl (by show w.heap.size + 1 < w2.heap.size; omega))
  have y4 := putW_size w3 (w.heap.size + 1) (.slice D0 S.data.length d0) (.slice D1 S.ret.length d1) (.int .i32 S.a) (.slice D2 S.mem.length d2) (.slice D3 S.cells.length d3) (.slice D4 S.vars.length d4) (.slice D5 S.out.length d5) (.slice D6 S.inp.length d6) (.int .i64 S.fault) (.int .i64 S.fuel) (.slice C code.length cc) (.int .i64 p) (.bool dn)
  generalize putW w3 (w.heap.size + 1) (.slice D0 S.data.length d0) (.slice D1 S.ret.length d1) (.int .i32 S.a) (.slice D2 S.mem.length d2) (.slice D3 S.cells.length d3) (.slice D4 S.vars.length d4) (.slice D5 S.out.length d5) (.slice D6 S.inp.length d6) (.int .i64 S.fault) (.int .i64 S.fuel) (.slice C code.length cc) (.int .i64 p) (.bool dn) = W at y1 y2 y3 y4 ⊢
  obtain ⟨z0, z1, z2, z3, z4, z5, z6, z7, z8, z9, z10, z11, z12⟩ := walk_cells y1
  exact bodyPost_ret (v := .tuple #[.agg #[.slice D0 S.data.length d0, .slice D1 S.ret.length d1, .int .i32 S.a, .slice D2 S.mem.length d2, .slice D3 S.cells.length d3, .slice D4 S.vars.length d4, .slice D5 S.out.length d5, .slice D6 S.inp.length d6, .int .i64 S.fault, .int .i64 S.fuel, .slice C code.length cc, .int .i64 p, .bool dn], .bool true]) (by simp [results, Try.results32, z0, z1, z2, z3, z4, z5, z6, z7, z8, z9, z10, z11, z12, go_sem]) rfl ⟨_, _, _, _, _, _, _, rfl, y3.mono (by show w.heap.size ≤ w2.heap.size; omega) (by rw [y4]; exact Nat.le_refl _), y2⟩
theorem walkerof_no (code : List (Int × Int)) (hrg : RngC code) (C : Option Addr) (cc : Nat) (p : Int) (dn : Bool) (d r m c v o i : Value) (S : S8) (hs : totSt S ≤ 2500000) (w : World) (hc : RdIc w (.slice C code.length cc) code) (hr : RdSt w d r m c v o i S) (h : ¬ (codeOk code = true ∧ inCode code.length p = true ∧ ok8 S = true)) : Calls Try.prog 32 #[.slice C code.length cc, .agg #[d, r, .int .i32 S.a, m, c, v, o, i, .int .i64 S.fault, .int .i64 S.fuel, .int .i64 p, .bool dn]] w (NoWalk w) := by
  cases h1 : codeOk code with
  | false => exact walkerof_no1 code hrg C cc p dn d r m c v o i S hs w hc hr h1
  | true =>
    cases h2 : inCode code.length p with
    | false => exact walkerof_no2 code hrg C cc p dn d r m c v o i S hs w hc hr h1 h2
    | true =>
      cases h3 : ok8 S with
      | false => exact walkerof_no3 code hrg C cc p dn d r m c v o i S hs w hc hr h1 h2 h3
      | true => exact absurd ⟨h1, h2, h3⟩ h
end Go.Proofs.Ytmnfdbgiemappaa

namespace Go.Proofs.Ytmnfdbgiemappaa
open Go.RowKit Go
variable {Z : BZ}

/-- Bytes have been written: the bench's box, the row. -/
def ToldO (Z : BZ) (lo g : Nat) (w : World) (v : Value) (n : Nat) (X : List Nat) (x0 x1 x2 x3 x4 x5 x7 x8 x9 : Value) (e : Ending) (w' : World) : Prop :=
  ∃ v', e = .returned (.int .i64 (if 400 < X.length then 13 else 0)) ∧ Blk w' g Z.t (Z.cs #[x0, x1, x2, x3, x4, x5, v', x7, x8, x9]) ∧ w'.ownsRow lo 5 1 v' X.length (X.map b8v) ∧ PutAlt w w' g v v' n X.length
end Go.Proofs.Ytmnfdbgiemappaa

namespace Go.Proofs.Ytmnfdbgiemappaa
open Go.RowKit Go
variable {Z : BZ}

/-- Bytes said when t numbers have been taken. -/
def say8' (S : S8) (t : Nat) (b : List Nat) : Int ⊕ S8 := if 400 < S.out.length + b.length then .inl 13 else .inr { drop8 S t with out := S.out ++ b }
theorem say8_one (S : S8) (b : List Nat) : say8' S 1 b = say8 S b := rfl
theorem wrote_end {w w1 w' : World} {g lo hi n cap t : Nat} {A : Option Addr} {d r m c v o i : Value} {S : S8} {l : List Nat} {e : Ending} (h : Taken Z w w1 g lo hi A n cap d r m c v o i S) (hn : S.data.length - t = n)
    (T : ToldO Z lo g w1 o S.out.length (S.out ++ l) (.slice A n cap) r (.int .i32 S.a) m c v i (.int .i64 S.fault) (.int .i64 S.fuel) e w') : BenchEnd Z w g lo hi d r m c v o i S (say8' S t l) e w' := by
  obtain ⟨v', rfl, hB, hO, hA⟩ := T
  have ho := h.own
  have hlen : (S.out ++ l).length = S.out.length + l.length := List.length_append
  have hrow : ∀ k, o.ownBlock = some k → lo ≤ k ∧ k < hi := fun k hk => ⟨own_lt ho.o k hk, ho.top _ (by simp) k hk⟩
  have hbo := box_out ho h.box Z.n1 Z.n2 Z.n3 Z.n4 Z.n5
  have hch : Chg w1 w' (fun k => k = g ∨ o.ownBlock = some k) := by
    rcases hA with ⟨q, cp, rfl, -, -, h2⟩ | ⟨h2, -⟩
    · refine h2.weaken fun k _ h3 => ?_
      rcases h3 with h3 | rfl
      · exact .inl h3
      · exact .inr rfl
    · exact h2.weaken fun k _ h3 => .inl h3
  have hchg : Chg w w' (fun k => k = g ∨ (lo ≤ k ∧ k < hi)) := by
    refine (h.chg.weaken fun k _ h2 => .inl h2).trans (hch.weaken fun k _ h2 => ?_)
    rcases h2 with h2 | h2
    · exact .inl h2
    · exact .inr (hrow k h2)
  have hne : ∀ x ∈ [d, r, m, c, v, i], ∀ k, x.ownBlock = some k → ¬ (k = g ∨ o.ownBlock = some k) := by
    intro x hx k hk2 hh
    have hx7 : x ∈ [d, r, m, c, v, o, i] := by
      simp only [List.mem_cons, List.not_mem_nil, or_false] at hx ⊢
      rcases hx with rfl | rfl | rfl | rfl | rfl | rfl <;> simp
    rcases hh with hh | hh
    · exact hbo x hx7 k hk2 hh
    · simp only [List.mem_cons, List.not_mem_nil, or_false] at hx
      have key : ∀ {e2 : TypeId} {s2 n2 : Nat} {xs : List Value}, w1.ownsRow lo e2 s2 x n2 xs → e2 ≠ 5 → False := fun h1 h2 => by
        rcases rows_ne h1 ho.o h2 with h3 | h3
        · rw [h3] at hk2; cases hk2
        · exact h3 (by rw [hk2, hh])
      rcases hx with rfl | rfl | rfl | rfl | rfl | rfl
      · exact key ho.d (by decide)
      · exact key ho.r (by decide)
      · exact key ho.m (by decide)
      · exact key ho.c (by decide)
      · exact key ho.v (by decide)
      · rcases apart_sym ho.oi with h3 | h3
        · rw [h3] at hk2; cases hk2
        · exact h3 (by rw [hk2, hh])
  unfold say8'
  by_cases h16 : 400 < S.out.length + l.length
  · rw [if_pos h16]
    refine ⟨hchg, by rw [hlen, if_pos h16], by decide, ?_⟩
    rcases hA with ⟨q, cp, rfl, rfl, -, h2⟩ | ⟨h2, -⟩
    · have horow : w'.ownsRow lo 5 1 (.slice (some ⟨q, 0, none⟩) S.out.length cp) S.out.length (S.out.map b8v) := by
        have h3 := own_prefix (n := S.out.length) hO (by rw [hlen]; omega)
        rw [← List.map_take, List.take_left] at h3
        exact h3
      exact ⟨ho.top, ho.dm, ho.oi, hch.own ho.d (hne d (by simp)), hch.own ho.r (hne r (by simp)), hch.own ho.m (hne m (by simp)), hch.own ho.c (hne c (by simp)), hch.own ho.v (hne v (by simp)), horow, hch.ownT ho.i (hne i (by simp))⟩
    · exact h2.ownst ho hbo
  · rw [if_neg h16]
    have hd := ho.d
    rw [h.dform] at hd
    have hp := own_prefix hd h.le
    rw [← List.map_take] at hp
    have hl : (S.data.take n).length = n := by have := h.le; simp; omega
    have hdb : d.ownBlock = (Value.slice A n cap).ownBlock := by rw [h.dform]; exact own_block
    have hned : ∀ k, (Value.slice A n cap).ownBlock = some k → ¬ (k = g ∨ o.ownBlock = some k) := fun k hk => hne d (by simp) k (by rw [hdb]; exact hk)
    have ed : drop8 S t = { S with data := S.data.take n } := by unfold drop8; rw [hn]
    rw [ed]
    refine ⟨hchg, by rw [hlen, if_neg h16], .slice A n cap, r, m, c, v, v', i, hB, ?_⟩
    have hdm := ho.dm
    rw [hdb] at hdm
    refine OwnSt.of7T (S := { S with data := S.data.take n, out := S.out ++ l }) ?_ (hch.own ho.r (hne r (by simp))) (hch.own ho.m (hne m (by simp))) (hch.own ho.c (hne c (by simp))) (hch.own ho.v (hne v (by simp))) hO (hch.ownT ho.i (hne i (by simp))) hdm ?_
    · show World.ownsRow _ lo _ 1 _ (S.data.take n).length _
      rw [hl]
      exact hch.own hp hned
    · cases hq : v'.ownBlock with
      | none => exact .inl rfl
      | some k =>
        refine .inr fun e => ?_
        rcases hA with ⟨q, cp, rfl, rfl, -, -⟩ | ⟨-, h2⟩
        · have hkq : q = k := by simpa [Value.ownBlock] using hq
          subst hkq
          exact hne i (by simp) q e.symm (.inr rfl)
        · have h1 := h2 k hq
          have h3 := ho.top i (by simp) k e.symm
          have h4 := h.hhi
          have h5 := h.chg.size
          omega
theorem rdM_new (w : World) (t : TypeId) (ys : List Nat) (hl : ys.length ≤ 1000) : RdM (w.alloc (.cells (ys.map b8v).toArray t)) (.slice (some ⟨w.heap.size, 0, none⟩) ys.length ys.length) ys := by
  refine ⟨_, _, rfl, by omega, fun i hi => ⟨⟨w.heap.size, 0, none⟩, rfl, by simp, ?_⟩⟩
  rw [addr_lit, Nat.zero_add, cell_of_row _ w.heap.size i (ys.map b8v).toArray t (0, 0) (heap_alloc_new w _)]
  simp [hi]
end Go.Proofs.Ytmnfdbgiemappaa

namespace Go.Proofs.Ytmnfdbgiemappaa
open Go.RowKit Go
variable {Z : BZ}

/-- Slots put when t numbers have been taken. -/
def slot8' (S : S8) (t : Nat) (l : List (Int × Int)) : Int ⊕ S8 := if 24 < S.ret.length + l.length then .inl 3 else .inr { drop8 S t with ret := S.ret ++ l }
theorem slot8_one {S : S8} (h : S.ret.length ≤ 24) (y : Int) : slot8' S 1 [(0, y)] = (if S.ret.length = 24 then .inl 3 else .inr { drop8 S 1 with ret := S.ret ++ [(0, y)] }) := by
  unfold slot8'
  by_cases h1 : S.ret.length = 24
  · rw [if_pos h1, if_pos (by simp; omega)]
  · rw [if_neg h1, if_neg (by simp; omega)]
theorem slotted_end {w w1 w' : World} {g lo hi n cap t : Nat} {A : Option Addr} {d r m c v o i : Value} {S : S8} {l : List (Int × Int)} {e : Ending} (h : Taken Z w w1 g lo hi A n cap d r m c v o i S) (hn : S.data.length - t = n)
    (T : ToldR Z lo g w1 r S.ret.length (S.ret ++ l) (.slice A n cap) (.int .i32 S.a) m c v o i (.int .i64 S.fault) (.int .i64 S.fuel) e w') : BenchEnd Z w g lo hi d r m c v o i S (slot8' S t l) e w' := by
  obtain ⟨v', rfl, hB, hO, hA⟩ := T
  have ho := h.own
  have hlen : (S.ret ++ l).length = S.ret.length + l.length := List.length_append
  have hrow : ∀ k, r.ownBlock = some k → lo ≤ k ∧ k < hi := fun k hk => ⟨own_lt ho.r k hk, ho.top _ (by simp) k hk⟩
  have hbo := box_out ho h.box Z.n1 Z.n2 Z.n3 Z.n4 Z.n5
  have hch : Chg w1 w' (fun k => k = g ∨ r.ownBlock = some k) := by
    rcases hA with ⟨q, cp, rfl, -, -, h2⟩ | ⟨h2, -⟩
    · refine h2.weaken fun k _ h3 => ?_
      rcases h3 with h3 | rfl
      · exact .inl h3
      · exact .inr rfl
    · exact h2.weaken fun k _ h3 => .inl h3
  have hchg : Chg w w' (fun k => k = g ∨ (lo ≤ k ∧ k < hi)) := by
    refine (h.chg.weaken fun k _ h2 => .inl h2).trans (hch.weaken fun k _ h2 => ?_)
    rcases h2 with h2 | h2
    · exact .inl h2
    · exact .inr (hrow k h2)
  have hne : ∀ x ∈ [d, m, c, v, o, i], ∀ k, x.ownBlock = some k → ¬ (k = g ∨ r.ownBlock = some k) := by
    intro x hx k hk2 hh
    have hx7 : x ∈ [d, r, m, c, v, o, i] := by
      simp only [List.mem_cons, List.not_mem_nil, or_false] at hx ⊢
      rcases hx with rfl | rfl | rfl | rfl | rfl | rfl <;> simp
    rcases hh with hh | hh
    · exact hbo x hx7 k hk2 hh
    · simp only [List.mem_cons, List.not_mem_nil, or_false] at hx
      have key : ∀ {e2 : TypeId} {s2 n2 : Nat} {xs : List Value}, w1.ownsRow lo e2 s2 x n2 xs → e2 ≠ 58 → False := fun h1 h2 => by
        rcases rows_ne h1 ho.r h2 with h3 | h3
        · rw [h3] at hk2; cases hk2
        · exact h3 (by rw [hk2, hh])
      rcases hx with rfl | rfl | rfl | rfl | rfl | rfl
      · exact key ho.d (by decide)
      · exact key ho.m (by decide)
      · exact key ho.c (by decide)
      · exact key ho.v (by decide)
      · exact key ho.o (by decide)
      · rcases tail_ne ho.i ho.r (by decide) with h3 | h3
        · rw [h3] at hk2; cases hk2
        · exact h3 (by rw [hk2, hh])
  unfold slot8'
  by_cases h16 : 24 < S.ret.length + l.length
  · rw [if_pos h16]
    refine ⟨hchg, by rw [hlen, if_pos h16], by decide, ?_⟩
    rcases hA with ⟨q, cp, rfl, rfl, -, h2⟩ | ⟨h2, -⟩
    · have hrrow : w'.ownsRow lo 58 2 (.slice (some ⟨q, 0, none⟩) S.ret.length cp) S.ret.length (slv S.ret) := by
        have h3 := own_prefixG (n := S.ret.length) hO (by rw [hlen]; omega)
        rw [← slv_take, List.take_left] at h3
        exact h3
      exact ⟨ho.top, ho.dm, ho.oi, hch.own ho.d (hne d (by simp)), hrrow, hch.own ho.m (hne m (by simp)), hch.own ho.c (hne c (by simp)), hch.own ho.v (hne v (by simp)), hch.own ho.o (hne o (by simp)), hch.ownT ho.i (hne i (by simp))⟩
    · exact h2.ownst ho hbo
  · rw [if_neg h16]
    have hd := ho.d
    rw [h.dform] at hd
    have hp := own_prefix hd h.le
    rw [← List.map_take] at hp
    have hl : (S.data.take n).length = n := by have := h.le; simp; omega
    have hdb : d.ownBlock = (Value.slice A n cap).ownBlock := by rw [h.dform]; exact own_block
    have hned : ∀ k, (Value.slice A n cap).ownBlock = some k → ¬ (k = g ∨ r.ownBlock = some k) := fun k hk => hne d (by simp) k (by rw [hdb]; exact hk)
    have ed : drop8 S t = { S with data := S.data.take n } := by unfold drop8; rw [hn]
    rw [ed]
    refine ⟨hchg, by rw [hlen, if_neg h16], .slice A n cap, v', m, c, v, o, i, hB, ?_⟩
    have hdm := ho.dm
    rw [hdb] at hdm
    refine OwnSt.of7T (S := { S with data := S.data.take n, ret := S.ret ++ l }) ?_ hO (hch.own ho.m (hne m (by simp))) (hch.own ho.c (hne c (by simp))) (hch.own ho.v (hne v (by simp))) (hch.own ho.o (hne o (by simp))) (hch.ownT ho.i (hne i (by simp))) hdm ho.oi
    show World.ownsRow _ lo _ 1 _ (S.data.take n).length _
    rw [hl]
    exact hch.own hp hned
end Go.Proofs.Ytmnfdbgiemappaa

namespace Go.Proofs.Ytmnfdbgiemappaa
open Go.RowKit Go
variable {Z : BZ}

theorem slot8_zero {S : S8} (h : S.ret.length ≤ 24) (k n : Int) : slot8' S 0 [(k, n)] = putR8 S k n := by
  unfold slot8' putR8
  have e : drop8 S 0 = S := by
    unfold drop8
    rw [Nat.sub_zero, List.take_length]
  rw [e]
  by_cases h1 : S.ret.length = 24
  · rw [if_pos h1, if_pos (by simp; omega)]
  · rw [if_neg h1, if_neg (by simp; omega)]
theorem putslot_end (d r m c v o i : Value) (S : S8) (k n : Int) (g lo hi : Nat) (w : World) (h24 : S.ret.length ≤ 24) (hhi : hi ≤ w.heap.size) (hlo : lo ≤ hi) (ho : OwnSt w lo hi d r m c v o i S) (hB : Blk w g Z.t (Z.cs #[d, r, .int .i32 S.a, m, c, v, o, i, .int .i64 S.fault, .int .i64 S.fuel])) :
    Calls Try.prog 36 #[.pointer (some ⟨g, 0, none⟩), .agg #[.int .i64 k, .int .i32 n]] w (BenchEnd Z w g lo hi d r m c v o i S (putR8 S k n)) := by
  obtain ⟨A, cap, rfl⟩ := own_form ho.d
  obtain ⟨R, rc, hR⟩ := own_formG ho.r
  subst hR
  have T0 := Taken.start hhi hlo ho hB
  have hT := putSlot_any lo g R S.ret.length rc S.ret k n (.slice A S.data.length cap) (.int .i32 S.a) m c v o i (.int .i64 S.fault) (.int .i64 S.fuel) w rfl h24 (Nat.le_trans hlo hhi) hB ho.r
  exact hT.mono fun e w' hh => by
    have h := slotted_end (t := 0) T0 (Nat.sub_zero _) hh
    rw [slot8_zero h24] at h
    exact h
end Go.Proofs.Ytmnfdbgiemappaa
