/-
  laws.FnExactStOk answers true at every state.
-/
import Derived.Test.YthelbjlckndklaaStIn
import Derived.Test.YthelbjlckndklaaStEq
import Derived.Test.YthelbjlckndklaaToSt
import Derived.Test.YthelbjlckndklaaStSz2
import Derived.Test.YthelbjlckndklaaImplStOk
import Derived.Test.YthelbjlckndklaaSpecStOk
namespace Go.Proofs.Ythelbjlckndklaa
open Go.RowKit Go

attribute [local go_sem ↓] Go.wp_at_zero Go.wp_at_succ
set_option maxRecDepth 100000 in
set_option maxHeartbeats 16000000 in
theorem law_FnExactStOk (w : World) (xa xf xu : Int) (A0 : Option Addr) (n0 c0 : Nat) (A1 : Option Addr) (n1 c1 : Nat) (A2 : Option Addr) (n2 c2 : Nat) (A3 : Option Addr) (n3 c3 : Nat) (A4 : Option Addr) (n4 c4 : Nat) (A5 : Option Addr) (n5 c5 : Nat) (A6 : Option Addr) (n6 c6 : Nat) (h0 : n0 ≤ 9223372036854775807 ∧ n1 ≤ 9223372036854775807 ∧ n2 ≤ 9223372036854775807 ∧ n3 ≤ 9223372036854775807 ∧ n4 ≤ 9223372036854775807 ∧ n5 ≤ 9223372036854775807 ∧ n6 ≤ 9223372036854775807) (hx : StIn w (.slice A0 n0 c0) (.slice A1 n1 c1) (.slice A2 n2 c2) (.slice A3 n3 c3) (.slice A4 n4 c4) (.slice A5 n5 c5) (.slice A6 n6 c6) xa xf xu n0 n1 n2 n3 n4 n5 n6) :
    Calls Try.prog 3 #[.agg #[.slice A0 n0 c0, .slice A1 n1 c1, .int .i32 xa, .slice A2 n2 c2, .slice A3 n3 c3, .slice A4 n4 c4, .slice A5 n5 c5, .slice A6 n6 c6, .int .i64 xf, .int .i64 xu]] w fun e w' => e = .returned (.bool true) ∧ Below w.heap.size w w' := by
  by_cases hs : n0 + n1 + n2 + n3 + n4 + n5 + n6 ≤ 1048576
  · obtain ⟨S, rfl, rfl, rfl, rfl, rfl, rfl, rfl, rfl, rfl, rfl, hin, hra⟩ := hx (by omega)
    have HRa := Lib.hid (fun W (hb : Below w.heap.size w W) => hra.below hb)
    have hts : totSt S ≤ 4000000 := by unfold totSt; omega
    have HS := Lib.hid (fun d r m c v o i W (h : RdSt W d r m c v o i S) => spec_stok d r m c v o i S W h)
    have HI := Lib.hid (fun d r m c v o i W (h : RdSt W d r m c v o i S) => impl_stok d r m c v o i S W h)
    obtain ⟨q, hq⟩ : ∃ q, ok8 S = q := ⟨_, rfl⟩
    rw [hq] at HS HI
    clear hq
    clear hra hx h0 hin
    go_enter Try.func3, Try.ntmps3
    go_wp2_with fail
    refine (szst_fit A0 S.data.length c0 A1 S.ret.length c1 A2 S.mem.length c2 A3 S.cells.length c3 A4 S.vars.length c4 A5 S.out.length c5 A6 S.inp.length c6 S.a S.fault S.fuel 1048576 (by omega) (by omega) _).mono ?_
    rintro e W1 ⟨rfl, hb1⟩
    obtain ⟨kb1, hB1, hz1⟩ := boxes1 hb1
    have sz1 : w.heap.size ≤ W1.heap.size := hB1.size
    have BE_1 : Hid (Below w.heap.size w W1) := Lib.hid (hB1)
    have BX_2 : Hid (Blk W1 w.heap.size 28 #[.slice A0 S.data.length c0, .slice A1 S.ret.length c1, .int .i32 S.a, .slice A2 S.mem.length c2, .slice A3 S.cells.length c3, .slice A4 S.vars.length c4, .slice A5 S.out.length c5, .slice A6 S.inp.length c6, .int .i64 S.fault, .int .i64 S.fuel]) := Lib.hid kb1
    clear hb1 kb1 hB1
    obtain ⟨c_3, c_4, c_5, c_6, c_7, c_8, c_9, c_10, c_11, c_12⟩ := st_cells BX_2.out
    have l_13 : w.heap.size < W1.heap.size := BX_2.out.lt
    go_wp2_with fail
    refine (tost_any (.slice A0 S.data.length c0) (.slice A1 S.ret.length c1) (.slice A2 S.mem.length c2) (.slice A3 S.cells.length c3) (.slice A4 S.vars.length c4) (.slice A5 S.out.length c5) (.slice A6 S.inp.length c6) S (by omega) _ (HRa.out _ BE_1.out)).mono ?_
    rintro e W2 ⟨v2_0, v2_1, v2_2, v2_3, v2_4, v2_5, v2_6, rfl, ho2, hb2⟩
    obtain ⟨⟨A2_0, k2_0, rfl⟩, ⟨A2_1, k2_1, rfl⟩, ⟨A2_2, k2_2, rfl⟩, ⟨A2_3, k2_3, rfl⟩, ⟨A2_4, k2_4, rfl⟩, ⟨A2_5, k2_5, rfl⟩, ⟨A2_6, k2_6, rfl⟩⟩ := ho2.form (by first | omega | assumption)
    have sz2 : W1.heap.size ≤ W2.heap.size := hb2.size
    have BE_14 : Hid (Below w.heap.size w W2) := Lib.hid (BE_1.out.trans (hb2.mono BE_1.out.size))
    have BX_15 := Lib.hid (BX_2.out.below hb2 BX_2.out.lt)
    obtain ⟨lo2, e_lo2⟩ : ∃ z, W1.heap.size = z := ⟨_, rfl⟩
    have a_lo2 : W1.heap.size ≤ lo2 := by rw [← e_lo2]; simp
    obtain ⟨hi2, e_hi2⟩ : ∃ z, W2.heap.size = z := ⟨_, rfl⟩
    have a_hi2 : hi2 ≤ W2.heap.size := by rw [e_hi2]; exact Nat.le_refl _
    have OW_16 : Hid (OwnSt W2 lo2 hi2 (.slice A2_0 S.data.length k2_0) (.slice A2_1 S.ret.length k2_1) (.slice A2_2 S.mem.length k2_2) (.slice A2_3 S.cells.length k2_3) (.slice A2_4 S.vars.length k2_4) (.slice A2_5 S.out.length k2_5) (.slice A2_6 S.inp.length k2_6) S) := Lib.hid (by rw [← e_lo2, ← e_hi2]; exact ho2)
    clear c_3 c_4 c_5 c_6 c_7 c_8 c_9 c_10 c_11 c_12 l_13 BE_1 BX_2 ho2 e_lo2 e_hi2 hb2
    go_wp2_with fail
    refine (HS.out (.slice A2_0 S.data.length k2_0) (.slice A2_1 S.ret.length k2_1) (.slice A2_2 S.mem.length k2_2) (.slice A2_3 S.cells.length k2_3) (.slice A2_4 S.vars.length k2_4) (.slice A2_5 S.out.length k2_5) (.slice A2_6 S.inp.length k2_6) _ (OW_16.out.rd (by first | omega | assumption))).mono ?_
    rintro e W3 ⟨rfl, hb3⟩
    have sz3 : W2.heap.size ≤ W3.heap.size := hb3.size
    have BE_17 : Hid (Below w.heap.size w W3) := Lib.hid (BE_14.out.trans (hb3.mono BE_14.out.size))
    have OW_18 := Lib.hid (OW_16.out.keep hb3)
    have BX_19 := Lib.hid (BX_15.out.below hb3 BX_15.out.lt)
    clear BE_14 OW_16 BX_15 hb3
    clear OW_18
    obtain ⟨c_20, c_21, c_22, c_23, c_24, c_25, c_26, c_27, c_28, c_29⟩ := st_cells BX_19.out
    have l_30 : w.heap.size < W3.heap.size := BX_19.out.lt
    go_wp2_with fail
    refine (tost_any (.slice A0 S.data.length c0) (.slice A1 S.ret.length c1) (.slice A2 S.mem.length c2) (.slice A3 S.cells.length c3) (.slice A4 S.vars.length c4) (.slice A5 S.out.length c5) (.slice A6 S.inp.length c6) S (by omega) _ (HRa.out _ BE_17.out)).mono ?_
    rintro e W4 ⟨v4_0, v4_1, v4_2, v4_3, v4_4, v4_5, v4_6, rfl, ho4, hb4⟩
    obtain ⟨⟨A4_0, k4_0, rfl⟩, ⟨A4_1, k4_1, rfl⟩, ⟨A4_2, k4_2, rfl⟩, ⟨A4_3, k4_3, rfl⟩, ⟨A4_4, k4_4, rfl⟩, ⟨A4_5, k4_5, rfl⟩, ⟨A4_6, k4_6, rfl⟩⟩ := ho4.form (by first | omega | assumption)
    have sz4 : W3.heap.size ≤ W4.heap.size := hb4.size
    have BE_31 : Hid (Below w.heap.size w W4) := Lib.hid (BE_17.out.trans (hb4.mono BE_17.out.size))
    have BX_32 := Lib.hid (BX_19.out.below hb4 BX_19.out.lt)
    obtain ⟨lo4, e_lo4⟩ : ∃ z, W3.heap.size = z := ⟨_, rfl⟩
    have a_lo4 : W3.heap.size ≤ lo4 := by rw [← e_lo4]; simp
    obtain ⟨hi4, e_hi4⟩ : ∃ z, W4.heap.size = z := ⟨_, rfl⟩
    have a_hi4 : hi4 ≤ W4.heap.size := by rw [e_hi4]; exact Nat.le_refl _
    have OW_33 : Hid (OwnSt W4 lo4 hi4 (.slice A4_0 S.data.length k4_0) (.slice A4_1 S.ret.length k4_1) (.slice A4_2 S.mem.length k4_2) (.slice A4_3 S.cells.length k4_3) (.slice A4_4 S.vars.length k4_4) (.slice A4_5 S.out.length k4_5) (.slice A4_6 S.inp.length k4_6) S) := Lib.hid (by rw [← e_lo4, ← e_hi4]; exact ho4)
    clear c_20 c_21 c_22 c_23 c_24 c_25 c_26 c_27 c_28 c_29 l_30 BE_17 BX_19 ho4 e_lo4 e_hi4 hb4
    obtain ⟨c_34, c_35, c_36, c_37, c_38, c_39, c_40, c_41, c_42, c_43⟩ := st_cells BX_32.out
    have l_44 : w.heap.size < W4.heap.size := BX_32.out.lt
    go_wp2_with fail
    refine (HI.out (.slice A4_0 S.data.length k4_0) (.slice A4_1 S.ret.length k4_1) (.slice A4_2 S.mem.length k4_2) (.slice A4_3 S.cells.length k4_3) (.slice A4_4 S.vars.length k4_4) (.slice A4_5 S.out.length k4_5) (.slice A4_6 S.inp.length k4_6) _ ((OW_33.out.rd (by first | omega | assumption)).below (below_alloc _ _))).mono ?_
    rintro e W5 ⟨rfl, hb5⟩
    obtain ⟨kb5, hB5, hz5⟩ := boxes1 hb5
    have sz5 : W4.heap.size ≤ W5.heap.size := hB5.size
    have BE_45 : Hid (Below w.heap.size w W5) := Lib.hid (BE_31.out.trans (hB5.mono BE_31.out.size))
    have OW_46 := Lib.hid (OW_33.out.keep hB5)
    have BX_47 := Lib.hid (BX_32.out.below hB5 BX_32.out.lt)
    have BX_48 : Hid (Blk W5 W4.heap.size 33 #[.slice A4_0 S.data.length k4_0, .slice A4_1 S.ret.length k4_1, .int .i32 S.a, .slice A4_2 S.mem.length k4_2, .slice A4_3 S.cells.length k4_3, .slice A4_4 S.vars.length k4_4, .slice A4_5 S.out.length k4_5, .slice A4_6 S.inp.length k4_6, .int .i64 S.fault, .int .i64 S.fuel]) := Lib.hid kb5
    clear c_34 c_35 c_36 c_37 c_38 c_39 c_40 c_41 c_42 c_43 l_44 hb5 BE_31 OW_33 BX_32 kb5 hB5
    obtain ⟨c_49, c_50, c_51, c_52, c_53, c_54, c_55, c_56, c_57, c_58⟩ := st_cells BX_47.out
    have l_59 : w.heap.size < W5.heap.size := BX_47.out.lt
    obtain ⟨c_60, c_61, c_62, c_63, c_64, c_65, c_66, c_67, c_68, c_69⟩ := st_cells BX_48.out
    have l_70 : W4.heap.size < W5.heap.size := BX_48.out.lt
    go_wp2_with fail
    have HS6 := Lib.hid (BE_45.out.drew)
    have OX6 := Lib.hid (show OwnSt W5.drew lo4 hi4 (.slice A4_0 S.data.length k4_0) (.slice A4_1 S.ret.length k4_1) (.slice A4_2 S.mem.length k4_2) (.slice A4_3 S.cells.length k4_3) (.slice A4_4 S.vars.length k4_4) (.slice A4_5 S.out.length k4_5) (.slice A4_6 S.inp.length k4_6) S from OW_46.out.same (fun _ _ _ _ => rfl))
    go_region_held3 (fun w' => w'.cell? ⟨W4.heap.size, 0, none⟩ = some (.slice A4_0 S.data.length k4_0) ∧ w'.cell? ⟨W4.heap.size, 1, none⟩ = some (.slice A4_1 S.ret.length k4_1) ∧ w'.cell? ⟨W4.heap.size, 2, none⟩ = some (.int .i32 S.a) ∧ w'.cell? ⟨W4.heap.size, 3, none⟩ = some (.slice A4_2 S.mem.length k4_2) ∧ w'.cell? ⟨W4.heap.size, 4, none⟩ = some (.slice A4_3 S.cells.length k4_3) ∧ w'.cell? ⟨W4.heap.size, 5, none⟩ = some (.slice A4_4 S.vars.length k4_4) ∧ w'.cell? ⟨W4.heap.size, 6, none⟩ = some (.slice A4_5 S.out.length k4_5) ∧ w'.cell? ⟨W4.heap.size, 7, none⟩ = some (.slice A4_6 S.inp.length k4_6) ∧ w'.cell? ⟨W4.heap.size, 8, none⟩ = some (.int .i64 S.fault) ∧ w'.cell? ⟨W4.heap.size, 9, none⟩ = some (.int .i64 S.fuel) ∧ w'.cell? ⟨w.heap.size, 0, none⟩ = some (.slice A0 S.data.length c0) ∧ w'.cell? ⟨w.heap.size, 1, none⟩ = some (.slice A1 S.ret.length c1) ∧ w'.cell? ⟨w.heap.size, 2, none⟩ = some (.int .i32 S.a) ∧ w'.cell? ⟨w.heap.size, 3, none⟩ = some (.slice A2 S.mem.length c2) ∧ w'.cell? ⟨w.heap.size, 4, none⟩ = some (.slice A3 S.cells.length c3) ∧ w'.cell? ⟨w.heap.size, 5, none⟩ = some (.slice A4 S.vars.length c4) ∧ w'.cell? ⟨w.heap.size, 6, none⟩ = some (.slice A5 S.out.length c5) ∧ w'.cell? ⟨w.heap.size, 7, none⟩ = some (.slice A6 S.inp.length c6) ∧ w'.cell? ⟨w.heap.size, 8, none⟩ = some (.int .i64 S.fault) ∧ w'.cell? ⟨w.heap.size, 9, none⟩ = some (.int .i64 S.fuel)) (first | exact st_cells2 BX_48.out BX_47.out | go_keep | exact st_cells2 (Blk.below BX_48.out.drew hb6_1 BX_48.out.lt) (Blk.below BX_47.out.drew hb6_1 BX_47.out.lt) | exact st_cells2 (Blk.below BX_48.out.drew (hb6_1.trans (hb6_2.mono hb6_1.size)) BX_48.out.lt) (Blk.below BX_47.out.drew (hb6_1.trans (hb6_2.mono hb6_1.size)) BX_47.out.lt)) (first | (go_at_call 8; refine (tost_any (.slice A0 S.data.length c0) (.slice A1 S.ret.length c1) (.slice A2 S.mem.length c2) (.slice A3 S.cells.length c3) (.slice A4 S.vars.length c4) (.slice A5 S.out.length c5) (.slice A6 S.inp.length c6) S (by omega) _ (HRa.out _ HS6.out)).mono ?_; rintro e V6 ⟨t6_0, t6_1, t6_2, t6_3, t6_4, t6_5, t6_6, rfl, hot6, hb6_1⟩) | (go_at_call 10; refine (eqst_same (.slice A4_0 S.data.length k4_0) (.slice A4_1 S.ret.length k4_1) (.slice A4_2 S.mem.length k4_2) (.slice A4_3 S.cells.length k4_3) (.slice A4_4 S.vars.length k4_4) (.slice A4_5 S.out.length k4_5) (.slice A4_6 S.inp.length k4_6) _ _ _ _ _ _ _ S _ (RdSt.below (OX6.out.rd (by first | omega | assumption)) hb6_1) (hot6.rd (by first | omega | assumption))).mono ?_; rintro e W6 ⟨rfl, hb6_2⟩))
    have hB6 : Below W5.heap.size W5 W6 := (Below.refl _ _).drew.trans (hb6_1.trans (hb6_2.mono hb6_1.size))
    have sz6 : W5.heap.size ≤ W6.heap.size := hB6.size
    have BE_71 : Hid (Below w.heap.size w W6) := Lib.hid (BE_45.out.trans (hB6.mono BE_45.out.size))
    have OW_72 := Lib.hid (OW_46.out.keep hB6)
    have BX_73 := Lib.hid (BX_47.out.below hB6 BX_47.out.lt)
    have BX_74 := Lib.hid (BX_48.out.below hB6 BX_48.out.lt)
    clear hb6_1 hb6_2 hot6 HS6 OX6 c_49 c_50 c_51 c_52 c_53 c_54 c_55 c_56 c_57 c_58 l_59 c_60 c_61 c_62 c_63 c_64 c_65 c_66 c_67 c_68 c_69 l_70 BE_45 OW_46 BX_47 BX_48 hB6
    go_wp2_with fail
    go_ret
    exact ⟨rfl, BE_71.out⟩
  · have hs2 : (1048576 : Int) < (n0 : Int) + (n1 : Int) + (n2 : Int) + (n3 : Int) + (n4 : Int) + (n5 : Int) + (n6 : Int) := by omega
    clear hs hx
    go_enter Try.func3, Try.ntmps3
    go_wp2_with fail
    refine (szst_no A0 n0 c0 A1 n1 c1 A2 n2 c2 A3 n3 c3 A4 n4 c4 A5 n5 c5 A6 n6 c6 xa xf xu 1048576 (by omega) h0 hs2 _).mono ?_
    rintro e w1 ⟨rfl, hb⟩
    obtain ⟨-, hB, -⟩ := boxes1 hb
    have HB := Lib.hid hB
    clear hb hB
    go_wp2_with fail
    go_ret
    exact ⟨rfl, HB.out⟩

end Go.Proofs.Ythelbjlckndklaa
