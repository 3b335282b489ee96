/-
  spec.Start.
-/
import Derived.Test.YtmnfdbgiemappaaST14
import Derived.Test.YtmnfdbgiemappaaST9
import Derived.Test.YtmnfdbgiemappaaST15
namespace Go.Proofs.Ytmnfdbgiemappaa
open Go.RowKit Go

set_option maxRecDepth 100000 in
set_option maxHeartbeats 4000000 in
theorem sstart_no1 (code : List (Int × Int)) (hrg : RngC code) (C : Option Addr) (cc : Nat) (p : Int) (d r m c v o i : Value) (S : S8) (_hs : totSt S ≤ 2500000) (w : World) (hc : RdIc w (.slice C code.length cc) code) (hr : RdSt w d r m c v o i S) (h1 : codeOk code = false) : Calls Try.prog 6 #[.slice C code.length cc, .int .i64 p, .agg #[d, r, .int .i32 S.a, m, c, v, o, i, .int .i64 S.fault, .int .i64 S.fuel]] w (NewMach w (zero8, 0, false)) := by
  obtain ⟨⟨A0, a0, rfl⟩, ⟨A1, a1, rfl⟩, ⟨A2, a2, rfl⟩, ⟨A3, a3, rfl⟩, ⟨A4, a4, rfl⟩, ⟨A5, a5, rfl⟩, ⟨A6, a6, rfl⟩⟩ := hr.form
  obtain ⟨KP, KR, B0, HZ0⟩ := stm_boxes w #[.slice A0 S.data.length a0, .slice A1 S.ret.length a1, .int .i32 S.a, .slice A2 S.mem.length a2, .slice A3 S.cells.length a3, .slice A4 S.vars.length a4, .slice A5 S.out.length a5, .slice A6 S.inp.length a6, .int .i64 S.fault, .int .i64 S.fuel]
  generalize hX : ((w.alloc (.cells #[.slice A0 S.data.length a0, .slice A1 S.ret.length a1, .int .i32 S.a, .slice A2 S.mem.length a2, .slice A3 S.cells.length a3, .slice A4 S.vars.length a4, .slice A5 S.out.length a5, .slice A6 S.inp.length a6, .int .i64 S.fault, .int .i64 S.fuel] 34)).alloc (.cells #[.slice none 0 0, .slice none 0 0, .int .i32 0, .slice none 0 0, .slice none 0 0, .slice none 0 0, .slice none 0 0, .slice none 0 0, .int .i64 0, .int .i64 0, .int .i64 0, .bool false] 36)) = X at KP KR B0 HZ0
  have HX := Lib.hid hX
  have HC := Lib.hid (fun W (h : Below w.heap.size w W) => spec_codeok code hrg _ W (hc.below h))
  have HI := Lib.hid (fun W => in_any p 0 ((code.length : Int) - 1) W)
  have HK := Lib.hid (fun W (h : Below w.heap.size w W) => spec_stok _ _ _ _ _ _ _ S W (hr.below h))
  have hl62 : code.length ≤ 4611686018427387904 := by
    obtain ⟨_, _, _, h, _⟩ := hc
    exact h
  have wl : IntKind.i64.wrap ((code.length : Int) - 1) = (code.length : Int) - 1 := IntWalk.i64_in _ (by omega)
  obtain ⟨p0, p1, p2, p3, p4, p5, p6, p7, p8, p9⟩ := st_cells KP.out
  have lz1 : w.heap.size < X.heap.size := KP.out.lt
  rw [h1] at HC
  clear hr hc hX hrg h1 _hs HK HI
  go_enter Try.func6, Try.ntmps6
  go_upto_region 1 with (fail)
  rw [HX.out]
  have KP0 := KP
  have KR0 := KR
  have HB0 := B0
  have hz := HZ0.out
  clear KP KR B0
  go_wp2_with fail
  refine (HC.out _ HB0.out).mono ?_
  rintro e w1 ⟨rfl, hb1⟩
  have sz1 := hb1.size
  have KP1 := Lib.hid (KP0.out.below hb1 KP0.out.lt)
  have KR1 := Lib.hid (KR0.out.below hb1 KR0.out.lt)
  have HB1 := Lib.hid (HB0.out.trans (hb1.mono HB0.out.size))
  clear hb1 KP0 KR0 HB0 HC p0 p1 p2 p3 p4 p5 p6 p7 p8 p9
  obtain ⟨p0, p1, p2, p3, p4, p5, p6, p7, p8, p9⟩ := st_cells KP1.out
  have lz1_ : w.heap.size < w1.heap.size := KP1.out.lt
  obtain ⟨n0, n1, n2, n3, n4, n5, n6, n7, n8, n9, n10, n11⟩ := mach_cells KR1.out
  have fz := KR1.out.frozen
  have lz8 : w.heap.size + 1 < w1.heap.size := KR1.out.lt
  go_wp2_with fail
  exact m_end (S := zero8) (lo := w1.heap.size) (hi := w1.heap.size) (p := 0) (dn := false) Try.results6 rfl rfl KR1.out HB1.out own_nil (by omega) (by omega) (.inl lz8) (Nat.le_refl _)
set_option maxRecDepth 100000 in
set_option maxHeartbeats 4000000 in
theorem sstart_no2 (code : List (Int × Int)) (hrg : RngC code) (C : Option Addr) (cc : Nat) (p : Int) (d r m c v o i : Value) (S : S8) (_hs : totSt S ≤ 2500000) (w : World) (hc : RdIc w (.slice C code.length cc) code) (hr : RdSt w d r m c v o i S) (h1 : codeOk code = true) (h2 : inCode code.length p = false) : Calls Try.prog 6 #[.slice C code.length cc, .int .i64 p, .agg #[d, r, .int .i32 S.a, m, c, v, o, i, .int .i64 S.fault, .int .i64 S.fuel]] w (NewMach w (zero8, 0, false)) := by
  obtain ⟨⟨A0, a0, rfl⟩, ⟨A1, a1, rfl⟩, ⟨A2, a2, rfl⟩, ⟨A3, a3, rfl⟩, ⟨A4, a4, rfl⟩, ⟨A5, a5, rfl⟩, ⟨A6, a6, rfl⟩⟩ := hr.form
  obtain ⟨KP, KR, B0, HZ0⟩ := stm_boxes w #[.slice A0 S.data.length a0, .slice A1 S.ret.length a1, .int .i32 S.a, .slice A2 S.mem.length a2, .slice A3 S.cells.length a3, .slice A4 S.vars.length a4, .slice A5 S.out.length a5, .slice A6 S.inp.length a6, .int .i64 S.fault, .int .i64 S.fuel]
  generalize hX : ((w.alloc (.cells #[.slice A0 S.data.length a0, .slice A1 S.ret.length a1, .int .i32 S.a, .slice A2 S.mem.length a2, .slice A3 S.cells.length a3, .slice A4 S.vars.length a4, .slice A5 S.out.length a5, .slice A6 S.inp.length a6, .int .i64 S.fault, .int .i64 S.fuel] 34)).alloc (.cells #[.slice none 0 0, .slice none 0 0, .int .i32 0, .slice none 0 0, .slice none 0 0, .slice none 0 0, .slice none 0 0, .slice none 0 0, .int .i64 0, .int .i64 0, .int .i64 0, .bool false] 36)) = X at KP KR B0 HZ0
  have HX := Lib.hid hX
  have HC := Lib.hid (fun W (h : Below w.heap.size w W) => spec_codeok code hrg _ W (hc.below h))
  have HI := Lib.hid (fun W => in_any p 0 ((code.length : Int) - 1) W)
  have HK := Lib.hid (fun W (h : Below w.heap.size w W) => spec_stok _ _ _ _ _ _ _ S W (hr.below h))
  have hl62 : code.length ≤ 4611686018427387904 := by
    obtain ⟨_, _, _, h, _⟩ := hc
    exact h
  have wl : IntKind.i64.wrap ((code.length : Int) - 1) = (code.length : Int) - 1 := IntWalk.i64_in _ (by omega)
  obtain ⟨p0, p1, p2, p3, p4, p5, p6, p7, p8, p9⟩ := st_cells KP.out
  have lz1 : w.heap.size < X.heap.size := KP.out.lt
  rw [h1] at HC
  have hb : inB p 0 ((code.length : Int) - 1) = false := inB_false (by have := of_decide_eq_false h2; omega)
  rw [hb] at HI
  clear hr hc hX hrg h1 h2 _hs HK hb
  go_enter Try.func6, Try.ntmps6
  go_upto_region 1 with (fail)
  rw [HX.out]
  have KP0 := KP
  have KR0 := KR
  have HB0 := B0
  have hz := HZ0.out
  clear KP KR B0
  go_wp2_with fail
  refine (HC.out _ HB0.out).mono ?_
  rintro e w1 ⟨rfl, hb1⟩
  have sz1 := hb1.size
  have KP1 := Lib.hid (KP0.out.below hb1 KP0.out.lt)
  have KR1 := Lib.hid (KR0.out.below hb1 KR0.out.lt)
  have HB1 := Lib.hid (HB0.out.trans (hb1.mono HB0.out.size))
  clear hb1 KP0 KR0 HB0 HC p0 p1 p2 p3 p4 p5 p6 p7 p8 p9
  obtain ⟨p0, p1, p2, p3, p4, p5, p6, p7, p8, p9⟩ := st_cells KP1.out
  have lz1_ : w.heap.size < w1.heap.size := KP1.out.lt
  go_wp2_with fail
  refine (HI.out _).mono ?_
  rintro e w2 ⟨rfl, rfl⟩
  clear HI
  obtain ⟨n0, n1, n2, n3, n4, n5, n6, n7, n8, n9, n10, n11⟩ := mach_cells KR1.out
  have fz := KR1.out.frozen
  have lz8 : w.heap.size + 1 < w1.heap.size := KR1.out.lt
  go_wp2_with fail
  exact m_end (S := zero8) (lo := w1.heap.size) (hi := w1.heap.size) (p := 0) (dn := false) Try.results6 rfl rfl KR1.out HB1.out own_nil (by omega) (by omega) (.inl lz8) (Nat.le_refl _)
set_option maxRecDepth 100000 in
set_option maxHeartbeats 4000000 in
theorem sstart_no3 (code : List (Int × Int)) (hrg : RngC code) (C : Option Addr) (cc : Nat) (p : Int) (d r m c v o i : Value) (S : S8) (_hs : totSt S ≤ 2500000) (w : World) (hc : RdIc w (.slice C code.length cc) code) (hr : RdSt w d r m c v o i S) (h1 : codeOk code = true) (h2 : inCode code.length p = true) (h3 : ok8 S = false) : Calls Try.prog 6 #[.slice C code.length cc, .int .i64 p, .agg #[d, r, .int .i32 S.a, m, c, v, o, i, .int .i64 S.fault, .int .i64 S.fuel]] w (NewMach w (zero8, 0, false)) := by
  obtain ⟨⟨A0, a0, rfl⟩, ⟨A1, a1, rfl⟩, ⟨A2, a2, rfl⟩, ⟨A3, a3, rfl⟩, ⟨A4, a4, rfl⟩, ⟨A5, a5, rfl⟩, ⟨A6, a6, rfl⟩⟩ := hr.form
  obtain ⟨KP, KR, B0, HZ0⟩ := stm_boxes w #[.slice A0 S.data.length a0, .slice A1 S.ret.length a1, .int .i32 S.a, .slice A2 S.mem.length a2, .slice A3 S.cells.length a3, .slice A4 S.vars.length a4, .slice A5 S.out.length a5, .slice A6 S.inp.length a6, .int .i64 S.fault, .int .i64 S.fuel]
  generalize hX : ((w.alloc (.cells #[.slice A0 S.data.length a0, .slice A1 S.ret.length a1, .int .i32 S.a, .slice A2 S.mem.length a2, .slice A3 S.cells.length a3, .slice A4 S.vars.length a4, .slice A5 S.out.length a5, .slice A6 S.inp.length a6, .int .i64 S.fault, .int .i64 S.fuel] 34)).alloc (.cells #[.slice none 0 0, .slice none 0 0, .int .i32 0, .slice none 0 0, .slice none 0 0, .slice none 0 0, .slice none 0 0, .slice none 0 0, .int .i64 0, .int .i64 0, .int .i64 0, .bool false] 36)) = X at KP KR B0 HZ0
  have HX := Lib.hid hX
  have HC := Lib.hid (fun W (h : Below w.heap.size w W) => spec_codeok code hrg _ W (hc.below h))
  have HI := Lib.hid (fun W => in_any p 0 ((code.length : Int) - 1) W)
  have HK := Lib.hid (fun W (h : Below w.heap.size w W) => spec_stok _ _ _ _ _ _ _ S W (hr.below h))
  have hl62 : code.length ≤ 4611686018427387904 := by
    obtain ⟨_, _, _, h, _⟩ := hc
    exact h
  have wl : IntKind.i64.wrap ((code.length : Int) - 1) = (code.length : Int) - 1 := IntWalk.i64_in _ (by omega)
  obtain ⟨p0, p1, p2, p3, p4, p5, p6, p7, p8, p9⟩ := st_cells KP.out
  have lz1 : w.heap.size < X.heap.size := KP.out.lt
  rw [h1] at HC
  have hb : inB p 0 ((code.length : Int) - 1) = true := by have := of_decide_eq_true h2; exact inB_true this.1 (by omega)
  rw [hb] at HI
  rw [h3] at HK
  clear hr hc hX hrg h1 h2 h3 _hs hb
  go_enter Try.func6, Try.ntmps6
  go_upto_region 1 with (fail)
  rw [HX.out]
  have KP0 := KP
  have KR0 := KR
  have HB0 := B0
  have hz := HZ0.out
  clear KP KR B0
  go_wp2_with fail
  refine (HC.out _ HB0.out).mono ?_
  rintro e w1 ⟨rfl, hb1⟩
  have sz1 := hb1.size
  have KP1 := Lib.hid (KP0.out.below hb1 KP0.out.lt)
  have KR1 := Lib.hid (KR0.out.below hb1 KR0.out.lt)
  have HB1 := Lib.hid (HB0.out.trans (hb1.mono HB0.out.size))
  clear hb1 KP0 KR0 HB0 HC p0 p1 p2 p3 p4 p5 p6 p7 p8 p9
  obtain ⟨p0, p1, p2, p3, p4, p5, p6, p7, p8, p9⟩ := st_cells KP1.out
  have lz1_ : w.heap.size < w1.heap.size := KP1.out.lt
  go_wp2_with fail
  refine (HI.out _).mono ?_
  rintro e w2 ⟨rfl, rfl⟩
  clear HI
  go_wp2_with fail
  refine (HK.out _ HB1.out).mono ?_
  rintro e w3 ⟨rfl, hb3⟩
  have sz3 := hb3.size
  have KP3 := Lib.hid (KP1.out.below hb3 KP1.out.lt)
  have KR3 := Lib.hid (KR1.out.below hb3 KR1.out.lt)
  have HB3 := Lib.hid (HB1.out.trans (hb3.mono HB1.out.size))
  clear hb3 KP1 KR1 HB1 HK p0 p1 p2 p3 p4 p5 p6 p7 p8 p9
  obtain ⟨p0, p1, p2, p3, p4, p5, p6, p7, p8, p9⟩ := st_cells KP3.out
  have lz3_ : w.heap.size < w3.heap.size := KP3.out.lt
  obtain ⟨n0, n1, n2, n3, n4, n5, n6, n7, n8, n9, n10, n11⟩ := mach_cells KR3.out
  have fz := KR3.out.frozen
  have lz8 : w.heap.size + 1 < w3.heap.size := KR3.out.lt
  go_wp2_with fail
  exact m_end (S := zero8) (lo := w3.heap.size) (hi := w3.heap.size) (p := 0) (dn := false) Try.results6 rfl rfl KR3.out HB3.out own_nil (by omega) (by omega) (.inl lz8) (Nat.le_refl _)
set_option maxRecDepth 100000 in
set_option maxHeartbeats 4000000 in
theorem sstart_no4 (code : List (Int × Int)) (hrg : RngC code) (C : Option Addr) (cc : Nat) (p : Int) (d r m c v o i : Value) (S : S8) (_hs : totSt S ≤ 2500000) (w : World) (hc : RdIc w (.slice C code.length cc) code) (hr : RdSt w d r m c v o i S) (h1 : codeOk code = true) (h2 : inCode code.length p = true) (h3 : ok8 S = true) (hf : S.fault ≠ 0) : Calls Try.prog 6 #[.slice C code.length cc, .int .i64 p, .agg #[d, r, .int .i32 S.a, m, c, v, o, i, .int .i64 S.fault, .int .i64 S.fuel]] w (NewMach w (zero8, 0, false)) := by
  obtain ⟨⟨A0, a0, rfl⟩, ⟨A1, a1, rfl⟩, ⟨A2, a2, rfl⟩, ⟨A3, a3, rfl⟩, ⟨A4, a4, rfl⟩, ⟨A5, a5, rfl⟩, ⟨A6, a6, rfl⟩⟩ := hr.form
  obtain ⟨KP, KR, B0, HZ0⟩ := stm_boxes w #[.slice A0 S.data.length a0, .slice A1 S.ret.length a1, .int .i32 S.a, .slice A2 S.mem.length a2, .slice A3 S.cells.length a3, .slice A4 S.vars.length a4, .slice A5 S.out.length a5, .slice A6 S.inp.length a6, .int .i64 S.fault, .int .i64 S.fuel]
  generalize hX : ((w.alloc (.cells #[.slice A0 S.data.length a0, .slice A1 S.ret.length a1, .int .i32 S.a, .slice A2 S.mem.length a2, .slice A3 S.cells.length a3, .slice A4 S.vars.length a4, .slice A5 S.out.length a5, .slice A6 S.inp.length a6, .int .i64 S.fault, .int .i64 S.fuel] 34)).alloc (.cells #[.slice none 0 0, .slice none 0 0, .int .i32 0, .slice none 0 0, .slice none 0 0, .slice none 0 0, .slice none 0 0, .slice none 0 0, .int .i64 0, .int .i64 0, .int .i64 0, .bool false] 36)) = X at KP KR B0 HZ0
  have HX := Lib.hid hX
  have HC := Lib.hid (fun W (h : Below w.heap.size w W) => spec_codeok code hrg _ W (hc.below h))
  have HI := Lib.hid (fun W => in_any p 0 ((code.length : Int) - 1) W)
  have HK := Lib.hid (fun W (h : Below w.heap.size w W) => spec_stok _ _ _ _ _ _ _ S W (hr.below h))
  have hl62 : code.length ≤ 4611686018427387904 := by
    obtain ⟨_, _, _, h, _⟩ := hc
    exact h
  have wl : IntKind.i64.wrap ((code.length : Int) - 1) = (code.length : Int) - 1 := IntWalk.i64_in _ (by omega)
  obtain ⟨p0, p1, p2, p3, p4, p5, p6, p7, p8, p9⟩ := st_cells KP.out
  have lz1 : w.heap.size < X.heap.size := KP.out.lt
  rw [h1] at HC
  have hb : inB p 0 ((code.length : Int) - 1) = true := by have := of_decide_eq_true h2; exact inB_true this.1 (by omega)
  rw [hb] at HI
  rw [h3] at HK
  have hfb : (S.fault != 0) = true := by simpa using hf
  clear hr hc hX hrg h1 h2 h3 _hs hf hb
  go_enter Try.func6, Try.ntmps6
  go_upto_region 1 with (fail)
  rw [HX.out]
  have KP0 := KP
  have KR0 := KR
  have HB0 := B0
  have hz := HZ0.out
  clear KP KR B0
  go_wp2_with fail
  refine (HC.out _ HB0.out).mono ?_
  rintro e w1 ⟨rfl, hb1⟩
  have sz1 := hb1.size
  have KP1 := Lib.hid (KP0.out.below hb1 KP0.out.lt)
  have KR1 := Lib.hid (KR0.out.below hb1 KR0.out.lt)
  have HB1 := Lib.hid (HB0.out.trans (hb1.mono HB0.out.size))
  clear hb1 KP0 KR0 HB0 HC p0 p1 p2 p3 p4 p5 p6 p7 p8 p9
  obtain ⟨p0, p1, p2, p3, p4, p5, p6, p7, p8, p9⟩ := st_cells KP1.out
  have lz1_ : w.heap.size < w1.heap.size := KP1.out.lt
  go_wp2_with fail
  refine (HI.out _).mono ?_
  rintro e w2 ⟨rfl, rfl⟩
  clear HI
  go_wp2_with fail
  refine (HK.out _ HB1.out).mono ?_
  rintro e w3 ⟨rfl, hb3⟩
  have sz3 := hb3.size
  have KP3 := Lib.hid (KP1.out.below hb3 KP1.out.lt)
  have KR3 := Lib.hid (KR1.out.below hb3 KR1.out.lt)
  have HB3 := Lib.hid (HB1.out.trans (hb3.mono HB1.out.size))
  clear hb3 KP1 KR1 HB1 HK p0 p1 p2 p3 p4 p5 p6 p7 p8 p9
  obtain ⟨p0, p1, p2, p3, p4, p5, p6, p7, p8, p9⟩ := st_cells KP3.out
  have lz3_ : w.heap.size < w3.heap.size := KP3.out.lt
  obtain ⟨n0, n1, n2, n3, n4, n5, n6, n7, n8, n9, n10, n11⟩ := mach_cells KR3.out
  have fz := KR3.out.frozen
  have lz8 : w.heap.size + 1 < w3.heap.size := KR3.out.lt
  go_wp2_with fail
  exact m_end (S := zero8) (lo := w3.heap.size) (hi := w3.heap.size) (p := 0) (dn := false) Try.results6 rfl rfl KR3.out HB3.out own_nil (by omega) (by omega) (.inl lz8) (Nat.le_refl _)
set_option maxRecDepth 100000 in
set_option maxHeartbeats 4000000 in
theorem sstart_yes (code : List (Int × Int)) (hrg : RngC code) (C : Option Addr) (cc : Nat) (p : Int) (d r m c v o i : Value) (S : S8) (hs : totSt S ≤ 2500000) (w : World) (hc : RdIc w (.slice C code.length cc) code) (hr : RdSt w d r m c v o i S) (h1 : codeOk code = true) (h2 : inCode code.length p = true) (h3 : ok8 S = true) (hf : S.fault = 0) : Calls Try.prog 6 #[.slice C code.length cc, .int .i64 p, .agg #[d, r, .int .i32 S.a, m, c, v, o, i, .int .i64 S.fault, .int .i64 S.fuel]] w (NewMach w (fin8 S (putR8 S 2 (-1)), p, false)) := by
  obtain ⟨⟨A0, a0, rfl⟩, ⟨A1, a1, rfl⟩, ⟨A2, a2, rfl⟩, ⟨A3, a3, rfl⟩, ⟨A4, a4, rfl⟩, ⟨A5, a5, rfl⟩, ⟨A6, a6, rfl⟩⟩ := hr.form
  obtain ⟨KP, KR, B0, HZ0⟩ := stm_boxes w #[.slice A0 S.data.length a0, .slice A1 S.ret.length a1, .int .i32 S.a, .slice A2 S.mem.length a2, .slice A3 S.cells.length a3, .slice A4 S.vars.length a4, .slice A5 S.out.length a5, .slice A6 S.inp.length a6, .int .i64 S.fault, .int .i64 S.fuel]
  generalize hX : ((w.alloc (.cells #[.slice A0 S.data.length a0, .slice A1 S.ret.length a1, .int .i32 S.a, .slice A2 S.mem.length a2, .slice A3 S.cells.length a3, .slice A4 S.vars.length a4, .slice A5 S.out.length a5, .slice A6 S.inp.length a6, .int .i64 S.fault, .int .i64 S.fuel] 34)).alloc (.cells #[.slice none 0 0, .slice none 0 0, .int .i32 0, .slice none 0 0, .slice none 0 0, .slice none 0 0, .slice none 0 0, .slice none 0 0, .int .i64 0, .int .i64 0, .int .i64 0, .bool false] 36)) = X at KP KR B0 HZ0
  have HX := Lib.hid hX
  have HC := Lib.hid (fun W (h : Below w.heap.size w W) => spec_codeok code hrg _ W (hc.below h))
  have HI := Lib.hid (fun W => in_any p 0 ((code.length : Int) - 1) W)
  have HK := Lib.hid (fun W (h : Below w.heap.size w W) => spec_stok _ _ _ _ _ _ _ S W (hr.below h))
  have hl62 : code.length ≤ 4611686018427387904 := by
    obtain ⟨_, _, _, h, _⟩ := hc
    exact h
  have wl : IntKind.i64.wrap ((code.length : Int) - 1) = (code.length : Int) - 1 := IntWalk.i64_in _ (by omega)
  obtain ⟨p0, p1, p2, p3, p4, p5, p6, p7, p8, p9⟩ := st_cells KP.out
  have lz1 : w.heap.size < X.heap.size := KP.out.lt
  rw [h1] at HC
  have hb : inB p 0 ((code.length : Int) - 1) = true := by have := of_decide_eq_true h2; exact inB_true this.1 (by omega)
  rw [hb] at HI
  rw [h3] at HK
  have hfb : (S.fault != 0) = false := by simpa using hf
  have h24 := ((ok8_iff S).1 h3).ret
  have HPUT := Lib.hid (fun W (h : Below w.heap.size w W) => spec_l12put _ _ _ _ _ _ _ S 2 (-1) hs W (hr.below h) h24)
  obtain ⟨T, hT⟩ : ∃ T, fin8 S (putR8 S 2 (-1)) = T := ⟨_, rfl⟩
  have HTT : Hid (totSt T ≤ 4000000) := Lib.hid (by rw [← hT]; exact putR8_tot hs)
  rw [hT] at HPUT ⊢
  clear hr hc hX hrg h1 h2 h3 hs hf h24 hT hb
  go_enter Try.func6, Try.ntmps6
  go_upto_region 1 with (fail)
  rw [HX.out]
  have KP0 := KP
  have KR0 := KR
  have HB0 := B0
  have hz := HZ0.out
  clear KP KR B0
  go_wp2_with fail
  refine (HC.out _ HB0.out).mono ?_
  rintro e w1 ⟨rfl, hb1⟩
  have sz1 := hb1.size
  have KP1 := Lib.hid (KP0.out.below hb1 KP0.out.lt)
  have KR1 := Lib.hid (KR0.out.below hb1 KR0.out.lt)
  have HB1 := Lib.hid (HB0.out.trans (hb1.mono HB0.out.size))
  clear hb1 KP0 KR0 HB0 HC p0 p1 p2 p3 p4 p5 p6 p7 p8 p9
  obtain ⟨p0, p1, p2, p3, p4, p5, p6, p7, p8, p9⟩ := st_cells KP1.out
  have lz1_ : w.heap.size < w1.heap.size := KP1.out.lt
  go_wp2_with fail
  refine (HI.out _).mono ?_
  rintro e w2 ⟨rfl, rfl⟩
  clear HI
  go_wp2_with fail
  refine (HK.out _ HB1.out).mono ?_
  rintro e w3 ⟨rfl, hb3⟩
  have sz3 := hb3.size
  have KP3 := Lib.hid (KP1.out.below hb3 KP1.out.lt)
  have KR3 := Lib.hid (KR1.out.below hb3 KR1.out.lt)
  have HB3 := Lib.hid (HB1.out.trans (hb3.mono HB1.out.size))
  clear hb3 KP1 KR1 HB1 HK p0 p1 p2 p3 p4 p5 p6 p7 p8 p9
  obtain ⟨p0, p1, p2, p3, p4, p5, p6, p7, p8, p9⟩ := st_cells KP3.out
  have lz3_ : w.heap.size < w3.heap.size := KP3.out.lt
  go_wp2_with fail
  refine (HPUT.out _ HB3.out).mono ?_
  rintro e w4 ⟨v0, v1, v2, v3, v4, v5, v6, rfl, ho, hb4⟩
  obtain ⟨⟨C0, c0, rfl⟩, ⟨C1, c1, rfl⟩, ⟨C2, c2, rfl⟩, ⟨C3, c3, rfl⟩, ⟨C4, c4, rfl⟩, ⟨C5, c5, rfl⟩, ⟨C6, c6, rfl⟩⟩ := ho.form HTT.out
  have HO := Lib.hid ho
  have sz4 := hb4.size
  have KP4 := Lib.hid (KP3.out.below hb4 KP3.out.lt)
  have KR4 := Lib.hid (KR3.out.below hb4 KR3.out.lt)
  have HB4 := Lib.hid (HB3.out.trans (hb4.mono HB3.out.size))
  clear hb4 KP3 KR3 HB3 HPUT ho p0 p1 p2 p3 p4 p5 p6 p7 p8 p9
  obtain ⟨p0, p1, p2, p3, p4, p5, p6, p7, p8, p9⟩ := st_cells KP4.out
  have lz4_ : w.heap.size < w4.heap.size := KP4.out.lt
  obtain ⟨n0, n1, n2, n3, n4, n5, n6, n7, n8, n9, n10, n11⟩ := mach_cells KR4.out
  have fz := KR4.out.frozen
  have lz8 : w.heap.size + 1 < w4.heap.size := KR4.out.lt
  go_wp2_with fail
  exact m_end (S := T) (p := p) (dn := false) Try.results6 rfl rfl KR4.out HB4.out HO.out (by omega) (by omega) (.inl (by omega)) (Nat.le_refl _)
theorem spec_start (code : List (Int × Int)) (hrg : RngC code) (C : Option Addr) (cc : Nat) (p : Int) (d r m c v o i : Value) (S : S8) (hs : totSt S ≤ 2500000) (w : World) (hc : RdIc w (.slice C code.length cc) code) (hr : RdSt w d r m c v o i S) : Calls Try.prog 6 #[.slice C code.length cc, .int .i64 p, .agg #[d, r, .int .i32 S.a, m, c, v, o, i, .int .i64 S.fault, .int .i64 S.fuel]] w (NewMach w (start8 code p S)) := by
  unfold start8
  cases h1 : codeOk code with
  | false =>
    rw [if_neg (fun h => by have := (can_iff.2 h.1).1; rw [h1] at this; cases this)]
    exact sstart_no1 code hrg C cc p d r m c v o i S hs w hc hr h1
  | true =>
    cases h2 : inCode code.length p with
    | false =>
      rw [if_neg (fun h => by have := (can_iff.2 h.1).2.1; rw [h2] at this; cases this)]
      exact sstart_no2 code hrg C cc p d r m c v o i S hs w hc hr h1 h2
    | true =>
      cases h3 : ok8 S with
      | false =>
        rw [if_neg (fun h => by have := (can_iff.2 h.1).2.2; rw [h3] at this; cases this)]
        exact sstart_no3 code hrg C cc p d r m c v o i S hs w hc hr h1 h2 h3
      | true =>
        by_cases hf : S.fault = 0
        · rw [if_pos ⟨can_iff.1 ⟨h1, h2, h3⟩, hf⟩]
          exact sstart_yes code hrg C cc p d r m c v o i S hs w hc hr h1 h2 h3 hf
        · rw [if_neg (fun h => hf h.2)]
          exact sstart_no4 code hrg C cc p d r m c v o i S hs w hc hr h1 h2 h3 hf
end Go.Proofs.Ytmnfdbgiemappaa
