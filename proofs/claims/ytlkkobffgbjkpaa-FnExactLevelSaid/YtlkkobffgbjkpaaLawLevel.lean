/-
  laws.FnExactLevel answers true at every state.
-/
import Derived.Test.YtlkkobffgbjkpaaStIn
import Derived.Test.YtlkkobffgbjkpaaStEq
import Derived.Test.YtlkkobffgbjkpaaStMark
import Derived.Test.YtlkkobffgbjkpaaStHeld
import Derived.Test.YtlkkobffgbjkpaaToSt
import Derived.Test.YtlkkobffgbjkpaaStSz2
import Derived.Test.YtlkkobffgbjkpaaLevel
namespace Go.Proofs.Ytlkkobffgbjkpaa
open Go.RowKit Go

attribute [local go_sem ↓] Go.wp_at_zero Go.wp_at_succ
set_option maxRecDepth 100000 in
set_option maxHeartbeats 16000000 in
theorem law_FnExactLevel (w : World) (xa xf xu : Int) (A0 : Option Addr) (n0 c0 : Nat) (A1 : Option Addr) (n1 c1 : Nat) (A2 : Option Addr) (n2 c2 : Nat) (A3 : Option Addr) (n3 c3 : Nat) (A4 : Option Addr) (n4 c4 : Nat) (A5 : Option Addr) (n5 c5 : Nat) (A6 : Option Addr) (n6 c6 : Nat) (h0 : n0 ≤ 9223372036854775807 ∧ n1 ≤ 9223372036854775807 ∧ n2 ≤ 9223372036854775807 ∧ n3 ≤ 9223372036854775807 ∧ n4 ≤ 9223372036854775807 ∧ n5 ≤ 9223372036854775807 ∧ n6 ≤ 9223372036854775807) (hx : StIn w (.slice A0 n0 c0) (.slice A1 n1 c1) (.slice A2 n2 c2) (.slice A3 n3 c3) (.slice A4 n4 c4) (.slice A5 n5 c5) (.slice A6 n6 c6) xa xf xu n0 n1 n2 n3 n4 n5 n6) :
    Calls Try.prog 8 #[.agg #[.slice A0 n0 c0, .slice A1 n1 c1, .int .i32 xa, .slice A2 n2 c2, .slice A3 n3 c3, .slice A4 n4 c4, .slice A5 n5 c5, .slice A6 n6 c6, .int .i64 xf, .int .i64 xu]] w fun e w' => e = .returned (.bool true) ∧ Below w.heap.size w w' := by
  by_cases hs : n0 + n1 + n2 + n3 + n4 + n5 + n6 ≤ 1048576
  · obtain ⟨S, rfl, rfl, rfl, rfl, rfl, rfl, rfl, rfl, rfl, rfl, hin, hra⟩ := hx (by omega)
    have HRa := Lib.hid (fun W (hb : Below w.heap.size w W) => hra.below hb)
    have hts : totSt S ≤ 2500000 := by unfold totSt; omega
    have HS := Lib.hid (fun d r m c v o i W (h : RdSt W d r m c v o i S) => spec_level d r m c v o i S (by omega) W h)
    have HI := Lib.hid (fun d r m c v o i W (h : RdSt W d r m c v o i S) => impl_level d r m c v o i S (by omega) W h)
    obtain ⟨T, hT⟩ : ∃ T, level8 S = T := ⟨_, rfl⟩
    have htt : totSt T ≤ 4000000 := by rw [← hT]; exact level8_tot S (by omega)
    rw [hT] at HS HI
    clear hT
    clear hra hx h0 hin
    go_enter Try.func8, Try.ntmps8
    go_wp2_with fail
    refine (szst_fit A0 S.data.length c0 A1 S.ret.length c1 A2 S.mem.length c2 A3 S.cells.length c3 A4 S.vars.length c4 A5 S.out.length c5 A6 S.inp.length c6 S.a S.fault S.fuel 1048576 (by omega) (by omega) _).mono ?_
    rintro e W1 ⟨rfl, hb1⟩
    obtain ⟨kb1, hB1, hz1⟩ := boxes1 hb1
    have sz1 : w.heap.size ≤ W1.heap.size := hB1.size
    have BE_1 : Hid (Below w.heap.size w W1) := Lib.hid (hB1)
    have BX_2 : Hid (Blk W1 w.heap.size 55 #[.slice A0 S.data.length c0, .slice A1 S.ret.length c1, .int .i32 S.a, .slice A2 S.mem.length c2, .slice A3 S.cells.length c3, .slice A4 S.vars.length c4, .slice A5 S.out.length c5, .slice A6 S.inp.length c6, .int .i64 S.fault, .int .i64 S.fuel]) := Lib.hid kb1
    clear hb1 kb1 hB1
    obtain ⟨c_3, c_4, c_5, c_6, c_7, c_8, c_9, c_10, c_11, c_12⟩ := st_cells BX_2.out
    have l_13 : w.heap.size < W1.heap.size := BX_2.out.lt
    go_wp2_with fail
    refine (tost_any (.slice A0 S.data.length c0) (.slice A1 S.ret.length c1) (.slice A2 S.mem.length c2) (.slice A3 S.cells.length c3) (.slice A4 S.vars.length c4) (.slice A5 S.out.length c5) (.slice A6 S.inp.length c6) S (by omega) _ (HRa.out _ BE_1.out)).mono ?_
    rintro e W2 ⟨v2_0, v2_1, v2_2, v2_3, v2_4, v2_5, v2_6, rfl, ho2, hb2⟩
    obtain ⟨⟨A2_0, k2_0, rfl⟩, ⟨A2_1, k2_1, rfl⟩, ⟨A2_2, k2_2, rfl⟩, ⟨A2_3, k2_3, rfl⟩, ⟨A2_4, k2_4, rfl⟩, ⟨A2_5, k2_5, rfl⟩, ⟨A2_6, k2_6, rfl⟩⟩ := ho2.form (by first | omega | assumption)
    have sz2 : W1.heap.size ≤ W2.heap.size := hb2.size
    have BE_14 : Hid (Below w.heap.size w W2) := Lib.hid (BE_1.out.trans (hb2.mono BE_1.out.size))
    have BX_15 := Lib.hid (BX_2.out.below hb2 BX_2.out.lt)
    obtain ⟨lo2, e_lo2⟩ : ∃ z, W1.heap.size = z := ⟨_, rfl⟩
    have a_lo2 : W1.heap.size ≤ lo2 := by rw [← e_lo2]; simp
    obtain ⟨hi2, e_hi2⟩ : ∃ z, W2.heap.size = z := ⟨_, rfl⟩
    have a_hi2 : hi2 ≤ W2.heap.size := by rw [e_hi2]; exact Nat.le_refl _
    have OW_16 : Hid (OwnSt W2 lo2 hi2 (.slice A2_0 S.data.length k2_0) (.slice A2_1 S.ret.length k2_1) (.slice A2_2 S.mem.length k2_2) (.slice A2_3 S.cells.length k2_3) (.slice A2_4 S.vars.length k2_4) (.slice A2_5 S.out.length k2_5) (.slice A2_6 S.inp.length k2_6) S) := Lib.hid (by rw [← e_lo2, ← e_hi2]; exact ho2)
    clear c_3 c_4 c_5 c_6 c_7 c_8 c_9 c_10 c_11 c_12 l_13 BE_1 BX_2 ho2 e_lo2 e_hi2 hb2
    go_wp2_with fail
    refine (HS.out (.slice A2_0 S.data.length k2_0) (.slice A2_1 S.ret.length k2_1) (.slice A2_2 S.mem.length k2_2) (.slice A2_3 S.cells.length k2_3) (.slice A2_4 S.vars.length k2_4) (.slice A2_5 S.out.length k2_5) (.slice A2_6 S.inp.length k2_6) _ (OW_16.out.rd (by first | omega | assumption))).mono ?_
    rintro e W3 ⟨v3_0, v3_1, v3_2, v3_3, v3_4, v3_5, v3_6, rfl, ho3, hb3⟩
    obtain ⟨⟨A3_0, k3_0, rfl⟩, ⟨A3_1, k3_1, rfl⟩, ⟨A3_2, k3_2, rfl⟩, ⟨A3_3, k3_3, rfl⟩, ⟨A3_4, k3_4, rfl⟩, ⟨A3_5, k3_5, rfl⟩, ⟨A3_6, k3_6, rfl⟩⟩ := ho3.form (by first | omega | assumption)
    have sz3 : W2.heap.size ≤ W3.heap.size := hb3.size
    have BE_17 : Hid (Below w.heap.size w W3) := Lib.hid (BE_14.out.trans (hb3.mono BE_14.out.size))
    have OW_18 := Lib.hid (OW_16.out.keep hb3)
    have BX_19 := Lib.hid (BX_15.out.below hb3 BX_15.out.lt)
    obtain ⟨lo3, e_lo3⟩ : ∃ z, W2.heap.size = z := ⟨_, rfl⟩
    have a_lo3 : W2.heap.size ≤ lo3 := by rw [← e_lo3]; simp
    obtain ⟨hi3, e_hi3⟩ : ∃ z, W3.heap.size = z := ⟨_, rfl⟩
    have a_hi3 : hi3 ≤ W3.heap.size := by rw [e_hi3]; exact Nat.le_refl _
    have OW_20 : Hid (OwnSt W3 lo3 hi3 (.slice A3_0 T.data.length k3_0) (.slice A3_1 T.ret.length k3_1) (.slice A3_2 T.mem.length k3_2) (.slice A3_3 T.cells.length k3_3) (.slice A3_4 T.vars.length k3_4) (.slice A3_5 T.out.length k3_5) (.slice A3_6 T.inp.length k3_6) T) := Lib.hid (by rw [← e_lo3, ← e_hi3]; exact ho3)
    clear BE_14 OW_16 BX_15 ho3 e_lo3 e_hi3 hb3
    clear OW_18
    obtain ⟨c_21, c_22, c_23, c_24, c_25, c_26, c_27, c_28, c_29, c_30⟩ := st_cells BX_19.out
    have l_31 : w.heap.size < W3.heap.size := BX_19.out.lt
    go_wp2_with fail
    refine (tost_any (.slice A0 S.data.length c0) (.slice A1 S.ret.length c1) (.slice A2 S.mem.length c2) (.slice A3 S.cells.length c3) (.slice A4 S.vars.length c4) (.slice A5 S.out.length c5) (.slice A6 S.inp.length c6) S (by omega) _ (HRa.out _ (BE_17.out.alloc BE_17.out.size _))).mono ?_
    rintro e W4 ⟨v4_0, v4_1, v4_2, v4_3, v4_4, v4_5, v4_6, rfl, ho4, hb4⟩
    obtain ⟨⟨A4_0, k4_0, rfl⟩, ⟨A4_1, k4_1, rfl⟩, ⟨A4_2, k4_2, rfl⟩, ⟨A4_3, k4_3, rfl⟩, ⟨A4_4, k4_4, rfl⟩, ⟨A4_5, k4_5, rfl⟩, ⟨A4_6, k4_6, rfl⟩⟩ := ho4.form (by first | omega | assumption)
    obtain ⟨kb4, hB4, hz4⟩ := boxes1 hb4
    have sz4 : W3.heap.size ≤ W4.heap.size := hB4.size
    have BE_32 : Hid (Below w.heap.size w W4) := Lib.hid (BE_17.out.trans (hB4.mono BE_17.out.size))
    have OW_33 := Lib.hid (OW_20.out.keep hB4)
    have BX_34 := Lib.hid (BX_19.out.below hB4 BX_19.out.lt)
    have BX_35 : Hid (Blk W4 W3.heap.size 59 #[.slice A3_0 T.data.length k3_0, .slice A3_1 T.ret.length k3_1, .int .i32 T.a, .slice A3_2 T.mem.length k3_2, .slice A3_3 T.cells.length k3_3, .slice A3_4 T.vars.length k3_4, .slice A3_5 T.out.length k3_5, .slice A3_6 T.inp.length k3_6, .int .i64 T.fault, .int .i64 T.fuel]) := Lib.hid kb4
    obtain ⟨lo4, e_lo4⟩ : ∃ z, (W3.alloc (.cells #[.slice A3_0 T.data.length k3_0, .slice A3_1 T.ret.length k3_1, .int .i32 T.a, .slice A3_2 T.mem.length k3_2, .slice A3_3 T.cells.length k3_3, .slice A3_4 T.vars.length k3_4, .slice A3_5 T.out.length k3_5, .slice A3_6 T.inp.length k3_6, .int .i64 T.fault, .int .i64 T.fuel] 59)).heap.size = z := ⟨_, rfl⟩
    have a_lo4 : W3.heap.size + 1 ≤ lo4 := by rw [← e_lo4]; simp
    obtain ⟨hi4, e_hi4⟩ : ∃ z, W4.heap.size = z := ⟨_, rfl⟩
    have a_hi4 : hi4 ≤ W4.heap.size := by rw [e_hi4]; exact Nat.le_refl _
    have OW_36 : Hid (OwnSt W4 lo4 hi4 (.slice A4_0 S.data.length k4_0) (.slice A4_1 S.ret.length k4_1) (.slice A4_2 S.mem.length k4_2) (.slice A4_3 S.cells.length k4_3) (.slice A4_4 S.vars.length k4_4) (.slice A4_5 S.out.length k4_5) (.slice A4_6 S.inp.length k4_6) S) := Lib.hid (by rw [← e_lo4, ← e_hi4]; exact ho4)
    clear c_21 c_22 c_23 c_24 c_25 c_26 c_27 c_28 c_29 c_30 l_31 hb4 BE_17 OW_20 BX_19 kb4 ho4 e_lo4 e_hi4 hB4
    obtain ⟨c_37, c_38, c_39, c_40, c_41, c_42, c_43, c_44, c_45, c_46⟩ := st_cells BX_34.out
    have l_47 : w.heap.size < W4.heap.size := BX_34.out.lt
    go_wp2_with fail
    refine (HI.out (.slice A4_0 S.data.length k4_0) (.slice A4_1 S.ret.length k4_1) (.slice A4_2 S.mem.length k4_2) (.slice A4_3 S.cells.length k4_3) (.slice A4_4 S.vars.length k4_4) (.slice A4_5 S.out.length k4_5) (.slice A4_6 S.inp.length k4_6) _ ((OW_36.out.rd (by first | omega | assumption)).below (below_alloc _ _))).mono ?_
    rintro e W5 ⟨v5_0, v5_1, v5_2, v5_3, v5_4, v5_5, v5_6, rfl, ho5, hb5⟩
    obtain ⟨⟨A5_0, k5_0, rfl⟩, ⟨A5_1, k5_1, rfl⟩, ⟨A5_2, k5_2, rfl⟩, ⟨A5_3, k5_3, rfl⟩, ⟨A5_4, k5_4, rfl⟩, ⟨A5_5, k5_5, rfl⟩, ⟨A5_6, k5_6, rfl⟩⟩ := ho5.form (by first | omega | assumption)
    obtain ⟨kb5, hB5, hz5⟩ := boxes1 hb5
    have sz5 : W4.heap.size ≤ W5.heap.size := hB5.size
    have BE_48 : Hid (Below w.heap.size w W5) := Lib.hid (BE_32.out.trans (hB5.mono BE_32.out.size))
    have OW_49 := Lib.hid (OW_33.out.keep hB5)
    have OW_50 := Lib.hid (OW_36.out.keep hB5)
    have BX_51 := Lib.hid (BX_34.out.below hB5 BX_34.out.lt)
    have BX_52 := Lib.hid (BX_35.out.below hB5 BX_35.out.lt)
    have BX_53 : Hid (Blk W5 W4.heap.size 59 #[.slice A4_0 S.data.length k4_0, .slice A4_1 S.ret.length k4_1, .int .i32 S.a, .slice A4_2 S.mem.length k4_2, .slice A4_3 S.cells.length k4_3, .slice A4_4 S.vars.length k4_4, .slice A4_5 S.out.length k4_5, .slice A4_6 S.inp.length k4_6, .int .i64 S.fault, .int .i64 S.fuel]) := Lib.hid kb5
    obtain ⟨lo5, e_lo5⟩ : ∃ z, (W4.alloc (.cells #[.slice A4_0 S.data.length k4_0, .slice A4_1 S.ret.length k4_1, .int .i32 S.a, .slice A4_2 S.mem.length k4_2, .slice A4_3 S.cells.length k4_3, .slice A4_4 S.vars.length k4_4, .slice A4_5 S.out.length k4_5, .slice A4_6 S.inp.length k4_6, .int .i64 S.fault, .int .i64 S.fuel] 59)).heap.size = z := ⟨_, rfl⟩
    have a_lo5 : W4.heap.size + 1 ≤ lo5 := by rw [← e_lo5]; simp
    obtain ⟨hi5, e_hi5⟩ : ∃ z, W5.heap.size = z := ⟨_, rfl⟩
    have a_hi5 : hi5 ≤ W5.heap.size := by rw [e_hi5]; exact Nat.le_refl _
    have OW_54 : Hid (OwnSt W5 lo5 hi5 (.slice A5_0 T.data.length k5_0) (.slice A5_1 T.ret.length k5_1) (.slice A5_2 T.mem.length k5_2) (.slice A5_3 T.cells.length k5_3) (.slice A5_4 T.vars.length k5_4) (.slice A5_5 T.out.length k5_5) (.slice A5_6 T.inp.length k5_6) T) := Lib.hid (by rw [← e_lo5, ← e_hi5]; exact ho5)
    clear c_37 c_38 c_39 c_40 c_41 c_42 c_43 c_44 c_45 c_46 l_47 hb5 BE_32 OW_33 OW_36 BX_34 BX_35 kb5 ho5 e_lo5 e_hi5 hB5
    obtain ⟨c_55, c_56, c_57, c_58, c_59, c_60, c_61, c_62, c_63, c_64⟩ := st_cells BX_52.out
    have l_65 : W3.heap.size < W5.heap.size := BX_52.out.lt
    go_wp2_with fail
    refine (eqst_same (.slice A5_0 T.data.length k5_0) (.slice A5_1 T.ret.length k5_1) (.slice A5_2 T.mem.length k5_2) (.slice A5_3 T.cells.length k5_3) (.slice A5_4 T.vars.length k5_4) (.slice A5_5 T.out.length k5_5) (.slice A5_6 T.inp.length k5_6) (.slice A3_0 T.data.length k3_0) (.slice A3_1 T.ret.length k3_1) (.slice A3_2 T.mem.length k3_2) (.slice A3_3 T.cells.length k3_3) (.slice A3_4 T.vars.length k3_4) (.slice A3_5 T.out.length k3_5) (.slice A3_6 T.inp.length k3_6) T _ ((OW_54.out.rd (by first | omega | assumption)).below (below_alloc _ _)) ((OW_49.out.rd (by first | omega | assumption)).below (below_alloc _ _))).mono ?_
    rintro e W6 ⟨rfl, hb6⟩
    obtain ⟨kb6, hB6, hz6⟩ := boxes1 hb6
    have sz6 : W5.heap.size ≤ W6.heap.size := hB6.size
    have BE_66 : Hid (Below w.heap.size w W6) := Lib.hid (BE_48.out.trans (hB6.mono BE_48.out.size))
    have OW_67 := Lib.hid (OW_49.out.keep hB6)
    have OW_68 := Lib.hid (OW_50.out.keep hB6)
    have OW_69 := Lib.hid (OW_54.out.keep hB6)
    have BX_70 := Lib.hid (BX_51.out.below hB6 BX_51.out.lt)
    have BX_71 := Lib.hid (BX_52.out.below hB6 BX_52.out.lt)
    have BX_72 := Lib.hid (BX_53.out.below hB6 BX_53.out.lt)
    have BX_73 : Hid (Blk W6 W5.heap.size 59 #[.slice A5_0 T.data.length k5_0, .slice A5_1 T.ret.length k5_1, .int .i32 T.a, .slice A5_2 T.mem.length k5_2, .slice A5_3 T.cells.length k5_3, .slice A5_4 T.vars.length k5_4, .slice A5_5 T.out.length k5_5, .slice A5_6 T.inp.length k5_6, .int .i64 T.fault, .int .i64 T.fuel]) := Lib.hid kb6
    clear c_55 c_56 c_57 c_58 c_59 c_60 c_61 c_62 c_63 c_64 l_65 hb6 BE_48 OW_49 OW_50 OW_54 BX_51 BX_52 BX_53 kb6 hB6
    obtain ⟨c_74, c_75, c_76, c_77, c_78, c_79, c_80, c_81, c_82, c_83⟩ := st_cells BX_70.out
    have l_84 : w.heap.size < W6.heap.size := BX_70.out.lt
    obtain ⟨c_85, c_86, c_87, c_88, c_89, c_90, c_91, c_92, c_93, c_94⟩ := st_cells BX_72.out
    have l_95 : W4.heap.size < W6.heap.size := BX_72.out.lt
    go_wp2_with fail
    have HS7 := Lib.hid (BE_66.out.drew)
    have OX7 := Lib.hid (show OwnSt W6.drew lo4 hi4 (.slice A4_0 S.data.length k4_0) (.slice A4_1 S.ret.length k4_1) (.slice A4_2 S.mem.length k4_2) (.slice A4_3 S.cells.length k4_3) (.slice A4_4 S.vars.length k4_4) (.slice A4_5 S.out.length k4_5) (.slice A4_6 S.inp.length k4_6) S from OW_68.out.same (fun _ _ _ _ => rfl))
    go_region_held3 (fun w' => w'.cell? ⟨W4.heap.size, 0, none⟩ = some (.slice A4_0 S.data.length k4_0) ∧ w'.cell? ⟨W4.heap.size, 1, none⟩ = some (.slice A4_1 S.ret.length k4_1) ∧ w'.cell? ⟨W4.heap.size, 2, none⟩ = some (.int .i32 S.a) ∧ w'.cell? ⟨W4.heap.size, 3, none⟩ = some (.slice A4_2 S.mem.length k4_2) ∧ w'.cell? ⟨W4.heap.size, 4, none⟩ = some (.slice A4_3 S.cells.length k4_3) ∧ w'.cell? ⟨W4.heap.size, 5, none⟩ = some (.slice A4_4 S.vars.length k4_4) ∧ w'.cell? ⟨W4.heap.size, 6, none⟩ = some (.slice A4_5 S.out.length k4_5) ∧ w'.cell? ⟨W4.heap.size, 7, none⟩ = some (.slice A4_6 S.inp.length k4_6) ∧ w'.cell? ⟨W4.heap.size, 8, none⟩ = some (.int .i64 S.fault) ∧ w'.cell? ⟨W4.heap.size, 9, none⟩ = some (.int .i64 S.fuel) ∧ w'.cell? ⟨w.heap.size, 0, none⟩ = some (.slice A0 S.data.length c0) ∧ w'.cell? ⟨w.heap.size, 1, none⟩ = some (.slice A1 S.ret.length c1) ∧ w'.cell? ⟨w.heap.size, 2, none⟩ = some (.int .i32 S.a) ∧ w'.cell? ⟨w.heap.size, 3, none⟩ = some (.slice A2 S.mem.length c2) ∧ w'.cell? ⟨w.heap.size, 4, none⟩ = some (.slice A3 S.cells.length c3) ∧ w'.cell? ⟨w.heap.size, 5, none⟩ = some (.slice A4 S.vars.length c4) ∧ w'.cell? ⟨w.heap.size, 6, none⟩ = some (.slice A5 S.out.length c5) ∧ w'.cell? ⟨w.heap.size, 7, none⟩ = some (.slice A6 S.inp.length c6) ∧ w'.cell? ⟨w.heap.size, 8, none⟩ = some (.int .i64 S.fault) ∧ w'.cell? ⟨w.heap.size, 9, none⟩ = some (.int .i64 S.fuel)) (first | exact st_cells2 BX_72.out BX_70.out | go_keep | exact st_cells2 (Blk.below BX_72.out.drew hb7_1 BX_72.out.lt) (Blk.below BX_70.out.drew hb7_1 BX_70.out.lt) | exact st_cells2 (Blk.below BX_72.out.drew (hb7_1.trans (hb7_2.mono hb7_1.size)) BX_72.out.lt) (Blk.below BX_70.out.drew (hb7_1.trans (hb7_2.mono hb7_1.size)) BX_70.out.lt)) (first | (go_at_call 36; refine (tost_any (.slice A0 S.data.length c0) (.slice A1 S.ret.length c1) (.slice A2 S.mem.length c2) (.slice A3 S.cells.length c3) (.slice A4 S.vars.length c4) (.slice A5 S.out.length c5) (.slice A6 S.inp.length c6) S (by omega) _ (HRa.out _ HS7.out)).mono ?_; rintro e V7 ⟨t7_0, t7_1, t7_2, t7_3, t7_4, t7_5, t7_6, rfl, hot7, hb7_1⟩) | (go_at_call 38; refine (eqst_same (.slice A4_0 S.data.length k4_0) (.slice A4_1 S.ret.length k4_1) (.slice A4_2 S.mem.length k4_2) (.slice A4_3 S.cells.length k4_3) (.slice A4_4 S.vars.length k4_4) (.slice A4_5 S.out.length k4_5) (.slice A4_6 S.inp.length k4_6) _ _ _ _ _ _ _ S _ (RdSt.below (OX7.out.rd (by first | omega | assumption)) hb7_1) (hot7.rd (by first | omega | assumption))).mono ?_; rintro e W7 ⟨rfl, hb7_2⟩))
    have hB7 : Below W6.heap.size W6 W7 := (Below.refl _ _).drew.trans (hb7_1.trans (hb7_2.mono hb7_1.size))
    have sz7 : W6.heap.size ≤ W7.heap.size := hB7.size
    have BE_96 : Hid (Below w.heap.size w W7) := Lib.hid (BE_66.out.trans (hB7.mono BE_66.out.size))
    have OW_97 := Lib.hid (OW_67.out.keep hB7)
    have OW_98 := Lib.hid (OW_68.out.keep hB7)
    have OW_99 := Lib.hid (OW_69.out.keep hB7)
    have BX_100 := Lib.hid (BX_70.out.below hB7 BX_70.out.lt)
    have BX_101 := Lib.hid (BX_71.out.below hB7 BX_71.out.lt)
    have BX_102 := Lib.hid (BX_72.out.below hB7 BX_72.out.lt)
    have BX_103 := Lib.hid (BX_73.out.below hB7 BX_73.out.lt)
    clear hb7_1 hb7_2 hot7 HS7 OX7 c_74 c_75 c_76 c_77 c_78 c_79 c_80 c_81 c_82 c_83 l_84 c_85 c_86 c_87 c_88 c_89 c_90 c_91 c_92 c_93 c_94 l_95 BE_66 OW_67 OW_68 OW_69 BX_70 BX_71 BX_72 BX_73 hB7
    obtain ⟨c_104, c_105, c_106, c_107, c_108, c_109, c_110, c_111, c_112, c_113⟩ := st_cells BX_102.out
    have l_114 : W4.heap.size < W7.heap.size := BX_102.out.lt
    go_wp2_with fail
    refine (markst1 lo4 hi4 (.slice A4_0 S.data.length k4_0) (.slice A4_1 S.ret.length k4_1) (.slice A4_2 S.mem.length k4_2) (.slice A4_3 S.cells.length k4_3) (.slice A4_4 S.vars.length k4_4) (.slice A4_5 S.out.length k4_5) (.slice A4_6 S.inp.length k4_6) S (by first | omega | assumption) _ OW_98.out (by omega)).mono ?_
    rintro e W8 ⟨rfl, ho8, hb8⟩
    have sz8 : W7.heap.size ≤ W8.heap.size := hb8.size
    have BE_115 : Hid (Below w.heap.size w W8) := Lib.hid (BE_96.out.trans (hb8.below (by omega) BE_96.out.size))
    have OW_116 := Lib.hid (OW_97.out.kept hb8 (by omega))
    have OW_117 := Lib.hid (OW_99.out.kept hb8 (by omega))
    have BX_118 := Lib.hid (BX_100.out.kept hb8 (by omega))
    have BX_119 := Lib.hid (BX_101.out.kept hb8 (by omega))
    have BX_120 := Lib.hid (BX_102.out.kept hb8 (by omega))
    have BX_121 := Lib.hid (BX_103.out.kept hb8 (by omega))
    have OW_122 := Lib.hid ho8
    clear c_104 c_105 c_106 c_107 c_108 c_109 c_110 c_111 c_112 c_113 l_114 BE_96 OW_97 OW_99 BX_100 BX_101 BX_102 BX_103 OW_98 ho8 hb8
    have hk0 : ¬ ((1 : Int) + (totSt S : Int) < 0) := by omega
    obtain ⟨c_123, c_124, c_125, c_126, c_127, c_128, c_129, c_130, c_131, c_132⟩ := st_cells BX_121.out
    have l_133 : W5.heap.size < W8.heap.size := BX_121.out.lt
    obtain ⟨c_134, c_135, c_136, c_137, c_138, c_139, c_140, c_141, c_142, c_143⟩ := st_cells BX_119.out
    have l_144 : W3.heap.size < W8.heap.size := BX_119.out.lt
    go_wp2_with fail
    refine (eqst_same (.slice A5_0 T.data.length k5_0) (.slice A5_1 T.ret.length k5_1) (.slice A5_2 T.mem.length k5_2) (.slice A5_3 T.cells.length k5_3) (.slice A5_4 T.vars.length k5_4) (.slice A5_5 T.out.length k5_5) (.slice A5_6 T.inp.length k5_6) (.slice A3_0 T.data.length k3_0) (.slice A3_1 T.ret.length k3_1) (.slice A3_2 T.mem.length k3_2) (.slice A3_3 T.cells.length k3_3) (.slice A3_4 T.vars.length k3_4) (.slice A3_5 T.out.length k3_5) (.slice A3_6 T.inp.length k3_6) T _ (OW_117.out.rd (by first | omega | assumption)) (OW_116.out.rd (by first | omega | assumption))).mono ?_
    rintro e W9 ⟨rfl, hb9⟩
    have sz9 : W8.heap.size ≤ W9.heap.size := hb9.size
    have BE_145 : Hid (Below w.heap.size w W9) := Lib.hid (BE_115.out.trans (hb9.mono BE_115.out.size))
    have OW_146 := Lib.hid (OW_116.out.keep hb9)
    have OW_147 := Lib.hid (OW_122.out.keep hb9)
    have OW_148 := Lib.hid (OW_117.out.keep hb9)
    have BX_149 := Lib.hid (BX_118.out.below hb9 BX_118.out.lt)
    have BX_150 := Lib.hid (BX_119.out.below hb9 BX_119.out.lt)
    have BX_151 := Lib.hid (BX_120.out.below hb9 BX_120.out.lt)
    have BX_152 := Lib.hid (BX_121.out.below hb9 BX_121.out.lt)
    clear c_123 c_124 c_125 c_126 c_127 c_128 c_129 c_130 c_131 c_132 l_133 c_134 c_135 c_136 c_137 c_138 c_139 c_140 c_141 c_142 c_143 l_144 BE_115 OW_116 OW_122 OW_117 BX_118 BX_119 BX_120 BX_121 hb9
    clear hk0
    obtain ⟨c_153, c_154, c_155, c_156, c_157, c_158, c_159, c_160, c_161, c_162⟩ := st_cells BX_152.out
    have l_163 : W5.heap.size < W9.heap.size := BX_152.out.lt
    go_wp2_with fail
    refine (markst1 lo5 hi5 (.slice A5_0 T.data.length k5_0) (.slice A5_1 T.ret.length k5_1) (.slice A5_2 T.mem.length k5_2) (.slice A5_3 T.cells.length k5_3) (.slice A5_4 T.vars.length k5_4) (.slice A5_5 T.out.length k5_5) (.slice A5_6 T.inp.length k5_6) T (by first | omega | assumption) _ OW_148.out (by omega)).mono ?_
    rintro e W10 ⟨rfl, ho10, hb10⟩
    have sz10 : W9.heap.size ≤ W10.heap.size := hb10.size
    have BE_164 : Hid (Below w.heap.size w W10) := Lib.hid (BE_145.out.trans (hb10.below (by omega) BE_145.out.size))
    have OW_165 := Lib.hid (OW_146.out.kept hb10 (by omega))
    have OW_166 := Lib.hid (OW_147.out.kept hb10 (by omega))
    have BX_167 := Lib.hid (BX_149.out.kept hb10 (by omega))
    have BX_168 := Lib.hid (BX_150.out.kept hb10 (by omega))
    have BX_169 := Lib.hid (BX_151.out.kept hb10 (by omega))
    have BX_170 := Lib.hid (BX_152.out.kept hb10 (by omega))
    have OW_171 := Lib.hid ho10
    clear c_153 c_154 c_155 c_156 c_157 c_158 c_159 c_160 c_161 c_162 l_163 BE_145 OW_146 OW_147 BX_149 BX_150 BX_151 BX_152 OW_148 ho10 hb10
    obtain ⟨c_172, c_173, c_174, c_175, c_176, c_177, c_178, c_179, c_180, c_181⟩ := st_cells BX_170.out
    have l_182 : W5.heap.size < W10.heap.size := BX_170.out.lt
    go_wp2_with fail
    refine (heldst1 (.slice A5_0 T.data.length k5_0) (.slice A5_1 T.ret.length k5_1) (.slice A5_2 T.mem.length k5_2) (.slice A5_3 T.cells.length k5_3) (.slice A5_4 T.vars.length k5_4) (.slice A5_5 T.out.length k5_5) (.slice A5_6 T.inp.length k5_6) T (by first | omega | assumption) _ (OW_171.out.rd (by rw [markSt_tot]; first | omega | assumption))).mono ?_
    rintro e W11 ⟨rfl, hb11⟩
    have sz11 : W10.heap.size ≤ W11.heap.size := hb11.size
    have BE_183 : Hid (Below w.heap.size w W11) := Lib.hid (BE_164.out.trans (hb11.mono BE_164.out.size))
    have OW_184 := Lib.hid (OW_165.out.keep hb11)
    have OW_185 := Lib.hid (OW_166.out.keep hb11)
    have OW_186 := Lib.hid (OW_171.out.keep hb11)
    have BX_187 := Lib.hid (BX_167.out.below hb11 BX_167.out.lt)
    have BX_188 := Lib.hid (BX_168.out.below hb11 BX_168.out.lt)
    have BX_189 := Lib.hid (BX_169.out.below hb11 BX_169.out.lt)
    have BX_190 := Lib.hid (BX_170.out.below hb11 BX_170.out.lt)
    clear c_172 c_173 c_174 c_175 c_176 c_177 c_178 c_179 c_180 c_181 l_182 BE_164 OW_165 OW_166 OW_171 BX_167 BX_168 BX_169 BX_170 hb11
    have hk1 : ¬ ((1 : Int) + (totSt T : Int) < 0) := by omega
    obtain ⟨c_191, c_192, c_193, c_194, c_195, c_196, c_197, c_198, c_199, c_200⟩ := st_cells BX_187.out
    have l_201 : w.heap.size < W11.heap.size := BX_187.out.lt
    go_wp2_with fail
    refine (tost_any (.slice A0 S.data.length c0) (.slice A1 S.ret.length c1) (.slice A2 S.mem.length c2) (.slice A3 S.cells.length c3) (.slice A4 S.vars.length c4) (.slice A5 S.out.length c5) (.slice A6 S.inp.length c6) S (by omega) _ (HRa.out _ BE_183.out)).mono ?_
    rintro e W12 ⟨v12_0, v12_1, v12_2, v12_3, v12_4, v12_5, v12_6, rfl, ho12, hb12⟩
    obtain ⟨⟨A12_0, k12_0, rfl⟩, ⟨A12_1, k12_1, rfl⟩, ⟨A12_2, k12_2, rfl⟩, ⟨A12_3, k12_3, rfl⟩, ⟨A12_4, k12_4, rfl⟩, ⟨A12_5, k12_5, rfl⟩, ⟨A12_6, k12_6, rfl⟩⟩ := ho12.form (by first | omega | assumption)
    have sz12 : W11.heap.size ≤ W12.heap.size := hb12.size
    have BE_202 : Hid (Below w.heap.size w W12) := Lib.hid (BE_183.out.trans (hb12.mono BE_183.out.size))
    have OW_203 := Lib.hid (OW_184.out.keep hb12)
    have OW_204 := Lib.hid (OW_185.out.keep hb12)
    have OW_205 := Lib.hid (OW_186.out.keep hb12)
    have BX_206 := Lib.hid (BX_187.out.below hb12 BX_187.out.lt)
    have BX_207 := Lib.hid (BX_188.out.below hb12 BX_188.out.lt)
    have BX_208 := Lib.hid (BX_189.out.below hb12 BX_189.out.lt)
    have BX_209 := Lib.hid (BX_190.out.below hb12 BX_190.out.lt)
    obtain ⟨lo12, e_lo12⟩ : ∃ z, W11.heap.size = z := ⟨_, rfl⟩
    have a_lo12 : W11.heap.size ≤ lo12 := by rw [← e_lo12]; simp
    obtain ⟨hi12, e_hi12⟩ : ∃ z, W12.heap.size = z := ⟨_, rfl⟩
    have a_hi12 : hi12 ≤ W12.heap.size := by rw [e_hi12]; exact Nat.le_refl _
    have OW_210 : Hid (OwnSt W12 lo12 hi12 (.slice A12_0 S.data.length k12_0) (.slice A12_1 S.ret.length k12_1) (.slice A12_2 S.mem.length k12_2) (.slice A12_3 S.cells.length k12_3) (.slice A12_4 S.vars.length k12_4) (.slice A12_5 S.out.length k12_5) (.slice A12_6 S.inp.length k12_6) S) := Lib.hid (by rw [← e_lo12, ← e_hi12]; exact ho12)
    clear c_191 c_192 c_193 c_194 c_195 c_196 c_197 c_198 c_199 c_200 l_201 BE_183 OW_184 OW_185 OW_186 BX_187 BX_188 BX_189 BX_190 ho12 e_lo12 e_hi12 hb12
    go_wp2_with fail
    refine (HI.out (.slice A12_0 S.data.length k12_0) (.slice A12_1 S.ret.length k12_1) (.slice A12_2 S.mem.length k12_2) (.slice A12_3 S.cells.length k12_3) (.slice A12_4 S.vars.length k12_4) (.slice A12_5 S.out.length k12_5) (.slice A12_6 S.inp.length k12_6) _ (OW_210.out.rd (by first | omega | assumption))).mono ?_
    rintro e W13 ⟨v13_0, v13_1, v13_2, v13_3, v13_4, v13_5, v13_6, rfl, ho13, hb13⟩
    obtain ⟨⟨A13_0, k13_0, rfl⟩, ⟨A13_1, k13_1, rfl⟩, ⟨A13_2, k13_2, rfl⟩, ⟨A13_3, k13_3, rfl⟩, ⟨A13_4, k13_4, rfl⟩, ⟨A13_5, k13_5, rfl⟩, ⟨A13_6, k13_6, rfl⟩⟩ := ho13.form (by first | omega | assumption)
    have sz13 : W12.heap.size ≤ W13.heap.size := hb13.size
    have BE_211 : Hid (Below w.heap.size w W13) := Lib.hid (BE_202.out.trans (hb13.mono BE_202.out.size))
    have OW_212 := Lib.hid (OW_203.out.keep hb13)
    have OW_213 := Lib.hid (OW_204.out.keep hb13)
    have OW_214 := Lib.hid (OW_205.out.keep hb13)
    have OW_215 := Lib.hid (OW_210.out.keep hb13)
    have BX_216 := Lib.hid (BX_206.out.below hb13 BX_206.out.lt)
    have BX_217 := Lib.hid (BX_207.out.below hb13 BX_207.out.lt)
    have BX_218 := Lib.hid (BX_208.out.below hb13 BX_208.out.lt)
    have BX_219 := Lib.hid (BX_209.out.below hb13 BX_209.out.lt)
    obtain ⟨lo13, e_lo13⟩ : ∃ z, W12.heap.size = z := ⟨_, rfl⟩
    have a_lo13 : W12.heap.size ≤ lo13 := by rw [← e_lo13]; simp
    obtain ⟨hi13, e_hi13⟩ : ∃ z, W13.heap.size = z := ⟨_, rfl⟩
    have a_hi13 : hi13 ≤ W13.heap.size := by rw [e_hi13]; exact Nat.le_refl _
    have OW_220 : Hid (OwnSt W13 lo13 hi13 (.slice A13_0 T.data.length k13_0) (.slice A13_1 T.ret.length k13_1) (.slice A13_2 T.mem.length k13_2) (.slice A13_3 T.cells.length k13_3) (.slice A13_4 T.vars.length k13_4) (.slice A13_5 T.out.length k13_5) (.slice A13_6 T.inp.length k13_6) T) := Lib.hid (by rw [← e_lo13, ← e_hi13]; exact ho13)
    clear BE_202 OW_203 OW_204 OW_205 OW_210 BX_206 BX_207 BX_208 BX_209 ho13 e_lo13 e_hi13 hb13
    clear OW_215
    obtain ⟨c_221, c_222, c_223, c_224, c_225, c_226, c_227, c_228, c_229, c_230⟩ := st_cells BX_217.out
    have l_231 : W3.heap.size < W13.heap.size := BX_217.out.lt
    go_wp2_with fail
    refine (eqst_same (.slice A13_0 T.data.length k13_0) (.slice A13_1 T.ret.length k13_1) (.slice A13_2 T.mem.length k13_2) (.slice A13_3 T.cells.length k13_3) (.slice A13_4 T.vars.length k13_4) (.slice A13_5 T.out.length k13_5) (.slice A13_6 T.inp.length k13_6) (.slice A3_0 T.data.length k3_0) (.slice A3_1 T.ret.length k3_1) (.slice A3_2 T.mem.length k3_2) (.slice A3_3 T.cells.length k3_3) (.slice A3_4 T.vars.length k3_4) (.slice A3_5 T.out.length k3_5) (.slice A3_6 T.inp.length k3_6) T _ ((OW_220.out.rd (by first | omega | assumption)).below (below_alloc _ _)) ((OW_212.out.rd (by first | omega | assumption)).below (below_alloc _ _))).mono ?_
    rintro e W14 ⟨rfl, hb14⟩
    obtain ⟨kb14, hB14, hz14⟩ := boxes1 hb14
    have sz14 : W13.heap.size ≤ W14.heap.size := hB14.size
    have BE_232 : Hid (Below w.heap.size w W14) := Lib.hid (BE_211.out.trans (hB14.mono BE_211.out.size))
    have OW_233 := Lib.hid (OW_212.out.keep hB14)
    have OW_234 := Lib.hid (OW_213.out.keep hB14)
    have OW_235 := Lib.hid (OW_214.out.keep hB14)
    have OW_236 := Lib.hid (OW_220.out.keep hB14)
    have BX_237 := Lib.hid (BX_216.out.below hB14 BX_216.out.lt)
    have BX_238 := Lib.hid (BX_217.out.below hB14 BX_217.out.lt)
    have BX_239 := Lib.hid (BX_218.out.below hB14 BX_218.out.lt)
    have BX_240 := Lib.hid (BX_219.out.below hB14 BX_219.out.lt)
    have BX_241 : Hid (Blk W14 W13.heap.size 59 #[.slice A13_0 T.data.length k13_0, .slice A13_1 T.ret.length k13_1, .int .i32 T.a, .slice A13_2 T.mem.length k13_2, .slice A13_3 T.cells.length k13_3, .slice A13_4 T.vars.length k13_4, .slice A13_5 T.out.length k13_5, .slice A13_6 T.inp.length k13_6, .int .i64 T.fault, .int .i64 T.fuel]) := Lib.hid kb14
    clear c_221 c_222 c_223 c_224 c_225 c_226 c_227 c_228 c_229 c_230 l_231 hb14 BE_211 OW_212 OW_213 OW_214 OW_220 BX_216 BX_217 BX_218 BX_219 kb14 hB14
    obtain ⟨c_242, c_243, c_244, c_245, c_246, c_247, c_248, c_249, c_250, c_251⟩ := st_cells BX_240.out
    have l_252 : W5.heap.size < W14.heap.size := BX_240.out.lt
    go_wp2_with fail
    refine (heldst1 (.slice A5_0 T.data.length k5_0) (.slice A5_1 T.ret.length k5_1) (.slice A5_2 T.mem.length k5_2) (.slice A5_3 T.cells.length k5_3) (.slice A5_4 T.vars.length k5_4) (.slice A5_5 T.out.length k5_5) (.slice A5_6 T.inp.length k5_6) T (by first | omega | assumption) _ (OW_235.out.rd (by rw [markSt_tot]; first | omega | assumption))).mono ?_
    rintro e W15 ⟨rfl, hb15⟩
    have sz15 : W14.heap.size ≤ W15.heap.size := hb15.size
    have BE_253 : Hid (Below w.heap.size w W15) := Lib.hid (BE_232.out.trans (hb15.mono BE_232.out.size))
    have OW_254 := Lib.hid (OW_233.out.keep hb15)
    have OW_255 := Lib.hid (OW_234.out.keep hb15)
    have OW_256 := Lib.hid (OW_235.out.keep hb15)
    have OW_257 := Lib.hid (OW_236.out.keep hb15)
    have BX_258 := Lib.hid (BX_237.out.below hb15 BX_237.out.lt)
    have BX_259 := Lib.hid (BX_238.out.below hb15 BX_238.out.lt)
    have BX_260 := Lib.hid (BX_239.out.below hb15 BX_239.out.lt)
    have BX_261 := Lib.hid (BX_240.out.below hb15 BX_240.out.lt)
    have BX_262 := Lib.hid (BX_241.out.below hb15 BX_241.out.lt)
    clear c_242 c_243 c_244 c_245 c_246 c_247 c_248 c_249 c_250 c_251 l_252 BE_232 OW_233 OW_234 OW_235 OW_236 BX_237 BX_238 BX_239 BX_240 BX_241 hb15
    go_wp2_with fail
    go_ret
    exact ⟨rfl, BE_253.out⟩
  · have hs2 : (1048576 : Int) < (n0 : Int) + (n1 : Int) + (n2 : Int) + (n3 : Int) + (n4 : Int) + (n5 : Int) + (n6 : Int) := by omega
    clear hs hx
    go_enter Try.func8, Try.ntmps8
    go_wp2_with fail
    refine (szst_no A0 n0 c0 A1 n1 c1 A2 n2 c2 A3 n3 c3 A4 n4 c4 A5 n5 c5 A6 n6 c6 xa xf xu 1048576 (by omega) h0 hs2 _).mono ?_
    rintro e w1 ⟨rfl, hb⟩
    obtain ⟨-, hB, -⟩ := boxes1 hb
    have HB := Lib.hid hB
    clear hb hB
    go_wp2_with fail
    go_ret
    exact ⟨rfl, HB.out⟩

end Go.Proofs.Ytlkkobffgbjkpaa
