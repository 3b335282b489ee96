/-
  laws.FnExactNewSt answers true at every store, text and fuel.
-/
import Derived.Test.YthelbjlckndklaaStEq
import Derived.Test.YthelbjlckndklaaStMark
import Derived.Test.YthelbjlckndklaaStHeld
import Derived.Test.YthelbjlckndklaaNewStS
import Derived.Test.YthelbjlckndklaaNewStI
namespace Go.Proofs.Ythelbjlckndklaa
open Go.RowKit Go

attribute [local go_sem ↓] Go.wp_at_zero Go.wp_at_succ
theorem new8_tot {cells inp : List Nat} {fuel : Int} (h1 : cells.length ≤ 1048576) (h2 : inp.length ≤ 1048576) : totSt (new8 cells inp fuel) ≤ 4000000 := by
  unfold new8
  split
  · unfold totSt
    simp
    omega
  · exact Nat.zero_le _
theorem markb2 (base : Nat) (v : Value) (xs : List Nat) (n : Nat) (hn : n ≤ 1048576) (hx : xs.length ≤ 4194304) (W : World) (hown : W.ownsRow base 5 1 v xs.length (xs.map b8v)) :
    Calls Try.prog 19 #[v, .int .i64 (1 + (n : Int))] W fun e w' => e = .returned (.int .i64 (1 + (n : Int) + (xs.length : Int))) ∧ w'.ownsRow base 5 1 v xs.length ((marksB (1 + n) xs.length).map b8v) ∧ W.grownBy w' v.ownBlock := by
  have h := markb_any base v xs (1 + n) (by omega) hx W hown
  have e : ((1 + n : Nat) : Int) = 1 + (n : Int) := by omega
  rw [e] at h
  exact h
set_option maxRecDepth 100000 in
set_option maxHeartbeats 16000000 in
theorem law_FnExactNewSt (fuel : Int) (w : World) (A : Option Addr) (len c : Nat) (h0 : len ≤ 9223372036854775807) (hx : len ≤ 4611686018427387904 → ∃ xs : List Nat, xs.length = len ∧ (∀ x ∈ xs, x < 4294967296) ∧ RdN w (.slice A len c) xs) (B : Option Addr) (len2 d : Nat) (h0y : len2 ≤ 9223372036854775807) (hxy : len2 ≤ 4611686018427387904 → ∃ xs : List Nat, xs.length = len2 ∧ (∀ x ∈ xs, x < 256) ∧ RdM w (.slice B len2 d) xs) :
    Calls Try.prog 4 #[stA (.slice A len c), .slice B len2 d, .int .i64 fuel] w fun e w' => e = .returned (.bool true) ∧ Below w.heap.size w w' := by
  by_cases hsy : len2 ≤ 1048576
  · obtain ⟨ys, rfl, hys, hrb⟩ := hxy (by omega)
    by_cases hs : len ≤ 1048576
    · obtain ⟨xs, rfl, hxs, hra⟩ := hx (by omega)
      have HRa := Lib.hid (fun W (hb : Below w.heap.size w W) => hra.below hb)
      have HRb := Lib.hid (fun W (hb : Below w.heap.size w W) => hrb.below hb)
      have HS := Lib.hid (fun c i W (h1 : RdN W c xs) (h2 : RdM W i ys) => spec_newst c i xs ys fuel (by omega) (by omega) W h1 h2)
      have HI := Lib.hid (fun c i W (h1 : RdN W c xs) (h2 : RdM W i ys) => impl_newst c i xs ys fuel (by omega) (by omega) W h1 h2)
      obtain ⟨T, hT⟩ : ∃ T, new8 xs ys fuel = T := ⟨_, rfl⟩
      have htt : totSt T ≤ 4000000 := by rw [← hT]; exact new8_tot (by omega) (by omega)
      rw [hT] at HS HI
      have hs3 : ¬ (1048576 : Int) < (ys.length : Int) := by omega
      clear hT hra hrb hx hxy hxs hys h0 h0y
      go_enter Try.func4, Try.ntmps4
      go_wp2_with fail
      refine (szstore_fit A xs.length c 1048576 (by omega) (by omega) _).mono ?_
      rintro e W1 ⟨rfl, hb1⟩
      obtain ⟨kb1, hB1, hz1⟩ := boxes1 hb1
      have sz1 : w.heap.size ≤ W1.heap.size := hB1.size
      have BE_1 : Hid (Below w.heap.size w W1) := Lib.hid (hB1)
      have BX_2 : Hid (Blk W1 w.heap.size 38 #[.slice A xs.length c]) := Lib.hid kb1
      clear hb1 kb1 hB1
      have c_3 : W1.cell? ⟨w.heap.size, 0, none⟩ = some (.slice A xs.length c) := BX_2.out.cell 0
      have l_4 : w.heap.size < W1.heap.size := BX_2.out.lt
      go_wp2_with fail
      refine (tostore_any _ xs (by omega) _ (HRa.out _ BE_1.out)).mono ?_
      rintro e W2 ⟨v2, rfl, ho2, hb2⟩
      obtain ⟨A2, c2, rfl⟩ := own_form ho2
      have sz2 : W1.heap.size ≤ W2.heap.size := hb2.size
      have BE_5 : Hid (Below w.heap.size w W2) := Lib.hid (BE_1.out.trans (hb2.mono BE_1.out.size))
      have BX_6 := Lib.hid (BX_2.out.below hb2 BX_2.out.lt)
      have hp2 := ho2.mono (show W1.heap.size ≤ _ by exact Nat.le_refl _)
      have LO_8 := Lib.hid (own_lt hp2)
      have HI_9 := Lib.hid (fun k hk => (World.ownsRow.lt hp2 k hk).2)
      have OW_7 := Lib.hid hp2
      clear c_3 l_4 BE_1 BX_2 ho2 hp2 hb2
      go_wp2_with fail
      refine (tob_any _ ys (by omega) _ (HRb.out _ BE_5.out)).mono ?_
      rintro e W3 ⟨v3, rfl, ho3, hb3⟩
      obtain ⟨A3, c3, rfl⟩ := own_form ho3
      have sz3 : W2.heap.size ≤ W3.heap.size := hb3.size
      have BE_10 : Hid (Below w.heap.size w W3) := Lib.hid (BE_5.out.trans (hb3.mono BE_5.out.size))
      have OW_11 := Lib.hid (own_below OW_7.out hb3 (Nat.le_refl _))
      have BX_12 := Lib.hid (BX_6.out.below hb3 BX_6.out.lt)
      have hp3 := ho3.mono (show W2.heap.size ≤ _ by exact Nat.le_refl _)
      have LO_14 := Lib.hid (own_lt hp3)
      have HI_15 := Lib.hid (fun k hk => (World.ownsRow.lt hp3 k hk).2)
      have OW_13 := Lib.hid hp3
      clear BE_5 OW_7 BX_6 ho3 hp3 hb3
      go_wp2_with fail
      refine (HS.out _ _ _ (rd_own OW_11.out (by first | omega | (simp [marksN_len, marksB_len]; omega))) (rd_own8 OW_13.out (by first | omega | (simp [marksN_len, marksB_len]; omega)))).mono ?_
      rintro e W4 ⟨v4_0, v4_1, v4_2, v4_3, v4_4, v4_5, v4_6, rfl, ho4, hb4⟩
      obtain ⟨⟨A4_0, k4_0, rfl⟩, ⟨A4_1, k4_1, rfl⟩, ⟨A4_2, k4_2, rfl⟩, ⟨A4_3, k4_3, rfl⟩, ⟨A4_4, k4_4, rfl⟩, ⟨A4_5, k4_5, rfl⟩, ⟨A4_6, k4_6, rfl⟩⟩ := ho4.form (by first | omega | assumption)
      have sz4 : W3.heap.size ≤ W4.heap.size := hb4.size
      have BE_16 : Hid (Below w.heap.size w W4) := Lib.hid (BE_10.out.trans (hb4.mono BE_10.out.size))
      have OW_17 := Lib.hid (own_below OW_11.out hb4 (Nat.le_refl _))
      have OW_18 := Lib.hid (own_below OW_13.out hb4 (Nat.le_refl _))
      have BX_19 := Lib.hid (BX_12.out.below hb4 BX_12.out.lt)
      obtain ⟨lo4, e_lo4⟩ : ∃ z, W3.heap.size = z := ⟨_, rfl⟩
      have a_lo4 : W3.heap.size ≤ lo4 := by rw [← e_lo4]; simp
      obtain ⟨hi4, e_hi4⟩ : ∃ z, W4.heap.size = z := ⟨_, rfl⟩
      have a_hi4 : hi4 ≤ W4.heap.size := by rw [e_hi4]; exact Nat.le_refl _
      have OW_20 : Hid (OwnSt W4 lo4 hi4 (.slice A4_0 T.data.length k4_0) (.slice A4_1 T.ret.length k4_1) (.slice A4_2 T.mem.length k4_2) (.slice A4_3 T.cells.length k4_3) (.slice A4_4 T.vars.length k4_4) (.slice A4_5 T.out.length k4_5) (.slice A4_6 T.inp.length k4_6) T) := Lib.hid (by rw [← e_lo4, ← e_hi4]; exact ho4)
      clear BE_10 OW_11 OW_13 BX_12 ho4 e_lo4 e_hi4 hb4
      clear OW_17 LO_8 HI_9
      clear OW_18 LO_14 HI_15
      have c_21 : W4.cell? ⟨w.heap.size, 0, none⟩ = some (.slice A xs.length c) := BX_19.out.cell 0
      have l_22 : w.heap.size < W4.heap.size := BX_19.out.lt
      go_wp2_with fail
      refine (tostore_any _ xs (by omega) _ (HRa.out _ (BE_16.out.alloc BE_16.out.size _))).mono ?_
      rintro e W5 ⟨v5, rfl, ho5, hb5⟩
      obtain ⟨A5, c5, rfl⟩ := own_form ho5
      obtain ⟨kb5, hB5, hz5⟩ := boxes1 hb5
      have sz5 : W4.heap.size ≤ W5.heap.size := hB5.size
      have BE_23 : Hid (Below w.heap.size w W5) := Lib.hid (BE_16.out.trans (hB5.mono BE_16.out.size))
      have OW_24 := Lib.hid (OW_20.out.keep hB5)
      have BX_25 := Lib.hid (BX_19.out.below hB5 BX_19.out.lt)
      have BX_26 : Hid (Blk W5 W4.heap.size 33 #[.slice A4_0 T.data.length k4_0, .slice A4_1 T.ret.length k4_1, .int .i32 T.a, .slice A4_2 T.mem.length k4_2, .slice A4_3 T.cells.length k4_3, .slice A4_4 T.vars.length k4_4, .slice A4_5 T.out.length k4_5, .slice A4_6 T.inp.length k4_6, .int .i64 T.fault, .int .i64 T.fuel]) := Lib.hid kb5
      have hp5 := ho5.mono (show W4.heap.size ≤ _ by simp)
      have LO_28 := Lib.hid (own_lt hp5)
      have HI_29 := Lib.hid (fun k hk => (World.ownsRow.lt hp5 k hk).2)
      have OW_27 := Lib.hid hp5
      clear c_21 l_22 hb5 BE_16 OW_20 BX_19 kb5 ho5 hp5 hB5
      go_wp2_with fail
      refine (tob_any _ ys (by omega) _ (HRb.out _ (BE_23.out.alloc BE_23.out.size _))).mono ?_
      rintro e W6 ⟨v6, rfl, ho6, hb6⟩
      obtain ⟨A6, c6, rfl⟩ := own_form ho6
      obtain ⟨kb6, hB6, hz6⟩ := boxes1 hb6
      have sz6 : W5.heap.size ≤ W6.heap.size := hB6.size
      have BE_30 : Hid (Below w.heap.size w W6) := Lib.hid (BE_23.out.trans (hB6.mono BE_23.out.size))
      have OW_31 := Lib.hid (OW_24.out.keep hB6)
      have OW_32 := Lib.hid (own_below OW_27.out hB6 (Nat.le_refl _))
      have BX_33 := Lib.hid (BX_25.out.below hB6 BX_25.out.lt)
      have BX_34 := Lib.hid (BX_26.out.below hB6 BX_26.out.lt)
      have BX_35 : Hid (Blk W6 W5.heap.size 41 #[.slice A5 xs.length c5]) := Lib.hid kb6
      have hp6 := ho6.mono (show W5.heap.size ≤ _ by simp)
      have LO_37 := Lib.hid (own_lt hp6)
      have HI_38 := Lib.hid (fun k hk => (World.ownsRow.lt hp6 k hk).2)
      have OW_36 := Lib.hid hp6
      clear hb6 BE_23 OW_24 OW_27 BX_25 BX_26 kb6 ho6 hp6 hB6
      have c_39 : W6.cell? ⟨W5.heap.size, 0, none⟩ = some (.slice A5 xs.length c5) := BX_35.out.cell 0
      have l_40 : W5.heap.size < W6.heap.size := BX_35.out.lt
      go_wp2_with fail
      refine (HI.out _ _ _ (rd_own OW_32.out (by first | omega | (simp [marksN_len, marksB_len]; omega))) (rd_own8 OW_36.out (by first | omega | (simp [marksN_len, marksB_len]; omega)))).mono ?_
      rintro e W7 ⟨v7_0, v7_1, v7_2, v7_3, v7_4, v7_5, v7_6, rfl, ho7, hb7⟩
      obtain ⟨⟨A7_0, k7_0, rfl⟩, ⟨A7_1, k7_1, rfl⟩, ⟨A7_2, k7_2, rfl⟩, ⟨A7_3, k7_3, rfl⟩, ⟨A7_4, k7_4, rfl⟩, ⟨A7_5, k7_5, rfl⟩, ⟨A7_6, k7_6, rfl⟩⟩ := ho7.form (by first | omega | assumption)
      have sz7 : W6.heap.size ≤ W7.heap.size := hb7.size
      have BE_41 : Hid (Below w.heap.size w W7) := Lib.hid (BE_30.out.trans (hb7.mono BE_30.out.size))
      have OW_42 := Lib.hid (OW_31.out.keep hb7)
      have OW_43 := Lib.hid (own_below OW_32.out hb7 (Nat.le_refl _))
      have OW_44 := Lib.hid (own_below OW_36.out hb7 (Nat.le_refl _))
      have BX_45 := Lib.hid (BX_33.out.below hb7 BX_33.out.lt)
      have BX_46 := Lib.hid (BX_34.out.below hb7 BX_34.out.lt)
      have BX_47 := Lib.hid (BX_35.out.below hb7 BX_35.out.lt)
      obtain ⟨lo7, e_lo7⟩ : ∃ z, W6.heap.size = z := ⟨_, rfl⟩
      have a_lo7 : W6.heap.size ≤ lo7 := by rw [← e_lo7]; simp
      obtain ⟨hi7, e_hi7⟩ : ∃ z, W7.heap.size = z := ⟨_, rfl⟩
      have a_hi7 : hi7 ≤ W7.heap.size := by rw [e_hi7]; exact Nat.le_refl _
      have OW_48 : Hid (OwnSt W7 lo7 hi7 (.slice A7_0 T.data.length k7_0) (.slice A7_1 T.ret.length k7_1) (.slice A7_2 T.mem.length k7_2) (.slice A7_3 T.cells.length k7_3) (.slice A7_4 T.vars.length k7_4) (.slice A7_5 T.out.length k7_5) (.slice A7_6 T.inp.length k7_6) T) := Lib.hid (by rw [← e_lo7, ← e_hi7]; exact ho7)
      clear c_39 l_40 BE_30 OW_31 OW_32 OW_36 BX_33 BX_34 BX_35 ho7 e_lo7 e_hi7 hb7
      obtain ⟨c_49, c_50, c_51, c_52, c_53, c_54, c_55, c_56, c_57, c_58⟩ := st_cells BX_46.out
      have l_59 : W4.heap.size < W7.heap.size := BX_46.out.lt
      go_wp2_with fail
      refine (eqst_same (.slice A7_0 T.data.length k7_0) (.slice A7_1 T.ret.length k7_1) (.slice A7_2 T.mem.length k7_2) (.slice A7_3 T.cells.length k7_3) (.slice A7_4 T.vars.length k7_4) (.slice A7_5 T.out.length k7_5) (.slice A7_6 T.inp.length k7_6) (.slice A4_0 T.data.length k4_0) (.slice A4_1 T.ret.length k4_1) (.slice A4_2 T.mem.length k4_2) (.slice A4_3 T.cells.length k4_3) (.slice A4_4 T.vars.length k4_4) (.slice A4_5 T.out.length k4_5) (.slice A4_6 T.inp.length k4_6) T _ ((OW_48.out.rd (by first | omega | assumption)).below (below_alloc _ _)) ((OW_42.out.rd (by first | omega | assumption)).below (below_alloc _ _))).mono ?_
      rintro e W8 ⟨rfl, hb8⟩
      obtain ⟨kb8, hB8, hz8⟩ := boxes1 hb8
      have sz8 : W7.heap.size ≤ W8.heap.size := hB8.size
      have BE_60 : Hid (Below w.heap.size w W8) := Lib.hid (BE_41.out.trans (hB8.mono BE_41.out.size))
      have OW_61 := Lib.hid (OW_42.out.keep hB8)
      have OW_62 := Lib.hid (own_below OW_43.out hB8 (Nat.le_refl _))
      have OW_63 := Lib.hid (own_below OW_44.out hB8 (Nat.le_refl _))
      have OW_64 := Lib.hid (OW_48.out.keep hB8)
      have BX_65 := Lib.hid (BX_45.out.below hB8 BX_45.out.lt)
      have BX_66 := Lib.hid (BX_46.out.below hB8 BX_46.out.lt)
      have BX_67 := Lib.hid (BX_47.out.below hB8 BX_47.out.lt)
      have BX_68 : Hid (Blk W8 W7.heap.size 33 #[.slice A7_0 T.data.length k7_0, .slice A7_1 T.ret.length k7_1, .int .i32 T.a, .slice A7_2 T.mem.length k7_2, .slice A7_3 T.cells.length k7_3, .slice A7_4 T.vars.length k7_4, .slice A7_5 T.out.length k7_5, .slice A7_6 T.inp.length k7_6, .int .i64 T.fault, .int .i64 T.fuel]) := Lib.hid kb8
      clear c_49 c_50 c_51 c_52 c_53 c_54 c_55 c_56 c_57 c_58 l_59 hb8 BE_41 OW_42 OW_43 OW_44 OW_48 BX_45 BX_46 BX_47 kb8 hB8
      have c_69 : W8.cell? ⟨w.heap.size, 0, none⟩ = some (.slice A xs.length c) := BX_65.out.cell 0
      have l_70 : w.heap.size < W8.heap.size := BX_65.out.lt
      have c_71 : W8.cell? ⟨W5.heap.size, 0, none⟩ = some (.slice A5 xs.length c5) := BX_67.out.cell 0
      have l_72 : W5.heap.size < W8.heap.size := BX_67.out.lt
      go_wp2_with fail
      have HS9 := Lib.hid (BE_60.out.drew)
      go_region_held3 (fun w' => w'.cell? ⟨W5.heap.size, 0, none⟩ = some (.slice A5 xs.length c5) ∧ w'.cell? ⟨w.heap.size, 0, none⟩ = some (.slice A xs.length c)) (first | exact ⟨BX_67.out.cell 0, BX_65.out.cell 0⟩ | go_keep | exact ⟨(Blk.below BX_67.out.drew hb9_1 BX_67.out.lt).cell 0, (Blk.below BX_65.out.drew hb9_1 BX_65.out.lt).cell 0⟩ | exact ⟨(Blk.below BX_67.out.drew (hb9_1.trans (hb9_2.mono hb9_1.size)) BX_67.out.lt).cell 0, (Blk.below BX_65.out.drew (hb9_1.trans (hb9_2.mono hb9_1.size)) BX_65.out.lt).cell 0⟩) (first | (go_at_call 13; refine (tostore_any _ xs (by omega) _ (HRa.out _ HS9.out)).mono ?_; rintro e V9 ⟨tc9, rfl, hot9, hb9_1⟩) | (go_at_call 16; refine (eqstore_same _ _ xs _ (RdN.below (RdN.drew (rd_own OW_62.out (by first | omega | (simp [marksN_len, marksB_len]; omega)))) hb9_1) (rd_own hot9 (by omega))).mono ?_; rintro e W9 ⟨rfl, hb9_2⟩))
      have hB9 : Below W8.heap.size W8 W9 := (Below.refl _ _).drew.trans (hb9_1.trans (hb9_2.mono hb9_1.size))
      have sz9 : W8.heap.size ≤ W9.heap.size := hB9.size
      have BE_73 : Hid (Below w.heap.size w W9) := Lib.hid (BE_60.out.trans (hB9.mono BE_60.out.size))
      have OW_74 := Lib.hid (OW_61.out.keep hB9)
      have OW_75 := Lib.hid (own_below OW_62.out hB9 (Nat.le_refl _))
      have OW_76 := Lib.hid (own_below OW_63.out hB9 (Nat.le_refl _))
      have OW_77 := Lib.hid (OW_64.out.keep hB9)
      have BX_78 := Lib.hid (BX_65.out.below hB9 BX_65.out.lt)
      have BX_79 := Lib.hid (BX_66.out.below hB9 BX_66.out.lt)
      have BX_80 := Lib.hid (BX_67.out.below hB9 BX_67.out.lt)
      have BX_81 := Lib.hid (BX_68.out.below hB9 BX_68.out.lt)
      clear hb9_1 hb9_2 hot9 HS9 c_69 l_70 c_71 l_72 BE_60 OW_61 OW_62 OW_63 OW_64 BX_65 BX_66 BX_67 BX_68 hB9
      go_wp2_with fail
      refine (tob_any _ ys (by omega) _ (HRb.out _ BE_73.out)).mono ?_
      rintro e W10 ⟨v10, rfl, ho10, hb10⟩
      obtain ⟨A10, c10, rfl⟩ := own_form ho10
      have sz10 : W9.heap.size ≤ W10.heap.size := hb10.size
      have BE_82 : Hid (Below w.heap.size w W10) := Lib.hid (BE_73.out.trans (hb10.mono BE_73.out.size))
      have OW_83 := Lib.hid (OW_74.out.keep hb10)
      have OW_84 := Lib.hid (own_below OW_75.out hb10 (Nat.le_refl _))
      have OW_85 := Lib.hid (own_below OW_76.out hb10 (Nat.le_refl _))
      have OW_86 := Lib.hid (OW_77.out.keep hb10)
      have BX_87 := Lib.hid (BX_78.out.below hb10 BX_78.out.lt)
      have BX_88 := Lib.hid (BX_79.out.below hb10 BX_79.out.lt)
      have BX_89 := Lib.hid (BX_80.out.below hb10 BX_80.out.lt)
      have BX_90 := Lib.hid (BX_81.out.below hb10 BX_81.out.lt)
      have hp10 := ho10.mono (show W9.heap.size ≤ _ by exact Nat.le_refl _)
      have LO_92 := Lib.hid (own_lt hp10)
      have HI_93 := Lib.hid (fun k hk => (World.ownsRow.lt hp10 k hk).2)
      have OW_91 := Lib.hid hp10
      clear BE_73 OW_74 OW_75 OW_76 OW_77 BX_78 BX_79 BX_80 BX_81 ho10 hp10 hb10
      go_wp2_with fail
      refine (eqb_same _ _ ys _ (rd_own8 OW_85.out (by first | omega | (simp [marksN_len, marksB_len]; omega))) (rd_own8 OW_91.out (by first | omega | (simp [marksN_len, marksB_len]; omega)))).mono ?_
      rintro e W11 ⟨rfl, hb11⟩
      have sz11 : W10.heap.size ≤ W11.heap.size := hb11.size
      have BE_94 : Hid (Below w.heap.size w W11) := Lib.hid (BE_82.out.trans (hb11.mono BE_82.out.size))
      have OW_95 := Lib.hid (OW_83.out.keep hb11)
      have OW_96 := Lib.hid (own_below OW_84.out hb11 (Nat.le_refl _))
      have OW_97 := Lib.hid (own_below OW_85.out hb11 (Nat.le_refl _))
      have OW_98 := Lib.hid (OW_86.out.keep hb11)
      have OW_99 := Lib.hid (own_below OW_91.out hb11 (Nat.le_refl _))
      have BX_100 := Lib.hid (BX_87.out.below hb11 BX_87.out.lt)
      have BX_101 := Lib.hid (BX_88.out.below hb11 BX_88.out.lt)
      have BX_102 := Lib.hid (BX_89.out.below hb11 BX_89.out.lt)
      have BX_103 := Lib.hid (BX_90.out.below hb11 BX_90.out.lt)
      clear BE_82 OW_83 OW_84 OW_85 OW_86 OW_91 BX_87 BX_88 BX_89 BX_90 hb11
      clear OW_99 LO_92 HI_93
      have c_104 : W11.cell? ⟨W5.heap.size, 0, none⟩ = some (.slice A5 xs.length c5) := BX_102.out.cell 0
      have l_105 : W5.heap.size < W11.heap.size := BX_102.out.lt
      go_wp2_with fail
      refine (markstore1 _ (.slice A5 xs.length c5) xs (by omega) _ OW_96.out).mono ?_
      rintro e W12 ⟨rfl, ho12, hb12⟩
      have sz12 : W11.heap.size ≤ W12.heap.size := hb12.size
      have BE_106 : Hid (Below w.heap.size w W12) := Lib.hid (BE_94.out.grown hb12 BE_94.out.size (fun k hk => Nat.le_trans (by first | exact Nat.le_refl _ | omega) (LO_28.out k hk)))
      have OW_107 := Lib.hid (OW_95.out.same (fun k h1 h2 h3 => hb12.block k h3 (fun e => by have h4 := LO_28.out k e.symm; have h5 := HI_29.out k e.symm; omega)))
      have OW_108 := Lib.hid (OW_97.out.kept hb12 (own_apart2 LO_37.out HI_29.out (by omega)))
      have OW_109 := Lib.hid (OW_98.out.same (fun k h1 h2 h3 => hb12.block k h3 (fun e => by have h4 := LO_28.out k e.symm; have h5 := HI_29.out k e.symm; omega)))
      have BX_110 := Lib.hid (BX_100.out.grown hb12 (box_ne BX_100.out OW_96.out (by decide)))
      have BX_111 := Lib.hid (BX_101.out.grown hb12 (box_ne BX_101.out OW_96.out (by decide)))
      have BX_112 := Lib.hid (BX_102.out.grown hb12 (box_ne BX_102.out OW_96.out (by decide)))
      have BX_113 := Lib.hid (BX_103.out.grown hb12 (box_ne BX_103.out OW_96.out (by decide)))
      have OW_114 := Lib.hid ho12
      clear c_104 l_105 BE_94 OW_95 OW_97 OW_98 BX_100 BX_101 BX_102 BX_103 OW_96 ho12 hb12
      go_wp2_with fail
      refine (markb2 _ (.slice A6 ys.length c6) ys xs.length (by omega) (by omega) _ OW_108.out).mono ?_
      rintro e W13 ⟨rfl, ho13, hb13⟩
      have sz13 : W12.heap.size ≤ W13.heap.size := hb13.size
      have BE_115 : Hid (Below w.heap.size w W13) := Lib.hid (BE_106.out.grown hb13 BE_106.out.size (fun k hk => Nat.le_trans (by first | exact Nat.le_refl _ | omega) (LO_37.out k hk)))
      have OW_116 := Lib.hid (OW_107.out.same (fun k h1 h2 h3 => hb13.block k h3 (fun e => by have h4 := LO_37.out k e.symm; have h5 := HI_38.out k e.symm; omega)))
      have OW_117 := Lib.hid (OW_114.out.kept hb13 (own_apart HI_29.out LO_37.out (by omega)))
      have OW_118 := Lib.hid (OW_109.out.same (fun k h1 h2 h3 => hb13.block k h3 (fun e => by have h4 := LO_37.out k e.symm; have h5 := HI_38.out k e.symm; omega)))
      have BX_119 := Lib.hid (BX_110.out.grown hb13 (box_ne BX_110.out OW_108.out (by decide)))
      have BX_120 := Lib.hid (BX_111.out.grown hb13 (box_ne BX_111.out OW_108.out (by decide)))
      have BX_121 := Lib.hid (BX_112.out.grown hb13 (box_ne BX_112.out OW_108.out (by decide)))
      have BX_122 := Lib.hid (BX_113.out.grown hb13 (box_ne BX_113.out OW_108.out (by decide)))
      have OW_123 := Lib.hid ho13
      clear BE_106 OW_107 OW_114 OW_109 BX_110 BX_111 BX_112 BX_113 OW_108 ho13 hb13
      have hk0 : ¬ ((1 : Int) + (xs.length : Int) + (ys.length : Int) < 0) := by omega
      obtain ⟨c_124, c_125, c_126, c_127, c_128, c_129, c_130, c_131, c_132, c_133⟩ := st_cells BX_122.out
      have l_134 : W7.heap.size < W13.heap.size := BX_122.out.lt
      obtain ⟨c_135, c_136, c_137, c_138, c_139, c_140, c_141, c_142, c_143, c_144⟩ := st_cells BX_120.out
      have l_145 : W4.heap.size < W13.heap.size := BX_120.out.lt
      go_wp2_with fail
      refine (eqst_same (.slice A7_0 T.data.length k7_0) (.slice A7_1 T.ret.length k7_1) (.slice A7_2 T.mem.length k7_2) (.slice A7_3 T.cells.length k7_3) (.slice A7_4 T.vars.length k7_4) (.slice A7_5 T.out.length k7_5) (.slice A7_6 T.inp.length k7_6) (.slice A4_0 T.data.length k4_0) (.slice A4_1 T.ret.length k4_1) (.slice A4_2 T.mem.length k4_2) (.slice A4_3 T.cells.length k4_3) (.slice A4_4 T.vars.length k4_4) (.slice A4_5 T.out.length k4_5) (.slice A4_6 T.inp.length k4_6) T _ (OW_118.out.rd (by first | omega | assumption)) (OW_116.out.rd (by first | omega | assumption))).mono ?_
      rintro e W14 ⟨rfl, hb14⟩
      have sz14 : W13.heap.size ≤ W14.heap.size := hb14.size
      have BE_146 : Hid (Below w.heap.size w W14) := Lib.hid (BE_115.out.trans (hb14.mono BE_115.out.size))
      have OW_147 := Lib.hid (OW_116.out.keep hb14)
      have OW_148 := Lib.hid (own_below OW_117.out hb14 (Nat.le_refl _))
      have OW_149 := Lib.hid (own_below OW_123.out hb14 (Nat.le_refl _))
      have OW_150 := Lib.hid (OW_118.out.keep hb14)
      have BX_151 := Lib.hid (BX_119.out.below hb14 BX_119.out.lt)
      have BX_152 := Lib.hid (BX_120.out.below hb14 BX_120.out.lt)
      have BX_153 := Lib.hid (BX_121.out.below hb14 BX_121.out.lt)
      have BX_154 := Lib.hid (BX_122.out.below hb14 BX_122.out.lt)
      clear c_124 c_125 c_126 c_127 c_128 c_129 c_130 c_131 c_132 c_133 l_134 c_135 c_136 c_137 c_138 c_139 c_140 c_141 c_142 c_143 c_144 l_145 BE_115 OW_116 OW_117 OW_123 OW_118 BX_119 BX_120 BX_121 BX_122 hb14
      clear hk0
      obtain ⟨c_155, c_156, c_157, c_158, c_159, c_160, c_161, c_162, c_163, c_164⟩ := st_cells BX_154.out
      have l_165 : W7.heap.size < W14.heap.size := BX_154.out.lt
      go_wp2_with fail
      refine (markst1 lo7 hi7 (.slice A7_0 T.data.length k7_0) (.slice A7_1 T.ret.length k7_1) (.slice A7_2 T.mem.length k7_2) (.slice A7_3 T.cells.length k7_3) (.slice A7_4 T.vars.length k7_4) (.slice A7_5 T.out.length k7_5) (.slice A7_6 T.inp.length k7_6) T (by first | omega | assumption) _ OW_150.out (by omega)).mono ?_
      rintro e W15 ⟨rfl, ho15, hb15⟩
      have sz15 : W14.heap.size ≤ W15.heap.size := hb15.size
      have BE_166 : Hid (Below w.heap.size w W15) := Lib.hid (BE_146.out.trans (hb15.below (by omega) BE_146.out.size))
      have OW_167 := Lib.hid (OW_147.out.kept hb15 (by omega))
      have OW_168 := Lib.hid (own_same OW_148.out (fun k hk => hb15.block k (by first | exact HI_29.out k hk | (have := HI_29.out k hk; omega)) (by have h1 := HI_29.out k hk; have h2 := LO_28.out k hk; omega)))
      have OW_169 := Lib.hid (own_same OW_149.out (fun k hk => hb15.block k (by first | exact HI_38.out k hk | (have := HI_38.out k hk; omega)) (by have h1 := HI_38.out k hk; have h2 := LO_37.out k hk; omega)))
      have BX_170 := Lib.hid (BX_151.out.kept hb15 (by omega))
      have BX_171 := Lib.hid (BX_152.out.kept hb15 (by omega))
      have BX_172 := Lib.hid (BX_153.out.kept hb15 (by omega))
      have BX_173 := Lib.hid (BX_154.out.kept hb15 (by omega))
      have OW_174 := Lib.hid ho15
      clear c_155 c_156 c_157 c_158 c_159 c_160 c_161 c_162 c_163 c_164 l_165 BE_146 OW_147 OW_148 OW_149 BX_151 BX_152 BX_153 BX_154 OW_150 ho15 hb15
      obtain ⟨c_175, c_176, c_177, c_178, c_179, c_180, c_181, c_182, c_183, c_184⟩ := st_cells BX_173.out
      have l_185 : W7.heap.size < W15.heap.size := BX_173.out.lt
      go_wp2_with fail
      refine (heldst1 (.slice A7_0 T.data.length k7_0) (.slice A7_1 T.ret.length k7_1) (.slice A7_2 T.mem.length k7_2) (.slice A7_3 T.cells.length k7_3) (.slice A7_4 T.vars.length k7_4) (.slice A7_5 T.out.length k7_5) (.slice A7_6 T.inp.length k7_6) T (by first | omega | assumption) _ (OW_174.out.rd (by rw [markSt_tot]; first | omega | assumption))).mono ?_
      rintro e W16 ⟨rfl, hb16⟩
      have sz16 : W15.heap.size ≤ W16.heap.size := hb16.size
      have BE_186 : Hid (Below w.heap.size w W16) := Lib.hid (BE_166.out.trans (hb16.mono BE_166.out.size))
      have OW_187 := Lib.hid (OW_167.out.keep hb16)
      have OW_188 := Lib.hid (own_below OW_168.out hb16 (Nat.le_refl _))
      have OW_189 := Lib.hid (own_below OW_169.out hb16 (Nat.le_refl _))
      have OW_190 := Lib.hid (OW_174.out.keep hb16)
      have BX_191 := Lib.hid (BX_170.out.below hb16 BX_170.out.lt)
      have BX_192 := Lib.hid (BX_171.out.below hb16 BX_171.out.lt)
      have BX_193 := Lib.hid (BX_172.out.below hb16 BX_172.out.lt)
      have BX_194 := Lib.hid (BX_173.out.below hb16 BX_173.out.lt)
      clear c_175 c_176 c_177 c_178 c_179 c_180 c_181 c_182 c_183 c_184 l_185 BE_166 OW_167 OW_168 OW_169 OW_174 BX_170 BX_171 BX_172 BX_173 hb16
      have hk1 : ¬ ((1 : Int) + (totSt T : Int) < 0) := by omega
      have c_195 : W16.cell? ⟨w.heap.size, 0, none⟩ = some (.slice A xs.length c) := BX_191.out.cell 0
      have l_196 : w.heap.size < W16.heap.size := BX_191.out.lt
      go_wp2_with fail
      refine (tostore_any _ xs (by omega) _ (HRa.out _ BE_186.out)).mono ?_
      rintro e W17 ⟨v17, rfl, ho17, hb17⟩
      obtain ⟨A17, c17, rfl⟩ := own_form ho17
      have sz17 : W16.heap.size ≤ W17.heap.size := hb17.size
      have BE_197 : Hid (Below w.heap.size w W17) := Lib.hid (BE_186.out.trans (hb17.mono BE_186.out.size))
      have OW_198 := Lib.hid (OW_187.out.keep hb17)
      have OW_199 := Lib.hid (own_below OW_188.out hb17 (Nat.le_refl _))
      have OW_200 := Lib.hid (own_below OW_189.out hb17 (Nat.le_refl _))
      have OW_201 := Lib.hid (OW_190.out.keep hb17)
      have BX_202 := Lib.hid (BX_191.out.below hb17 BX_191.out.lt)
      have BX_203 := Lib.hid (BX_192.out.below hb17 BX_192.out.lt)
      have BX_204 := Lib.hid (BX_193.out.below hb17 BX_193.out.lt)
      have BX_205 := Lib.hid (BX_194.out.below hb17 BX_194.out.lt)
      have hp17 := ho17.mono (show W16.heap.size ≤ _ by exact Nat.le_refl _)
      have LO_207 := Lib.hid (own_lt hp17)
      have HI_208 := Lib.hid (fun k hk => (World.ownsRow.lt hp17 k hk).2)
      have OW_206 := Lib.hid hp17
      clear c_195 l_196 BE_186 OW_187 OW_188 OW_189 OW_190 BX_191 BX_192 BX_193 BX_194 ho17 hp17 hb17
      go_wp2_with fail
      refine (tob_any _ ys (by omega) _ (HRb.out _ BE_197.out)).mono ?_
      rintro e W18 ⟨v18, rfl, ho18, hb18⟩
      obtain ⟨A18, c18, rfl⟩ := own_form ho18
      have sz18 : W17.heap.size ≤ W18.heap.size := hb18.size
      have BE_209 : Hid (Below w.heap.size w W18) := Lib.hid (BE_197.out.trans (hb18.mono BE_197.out.size))
      have OW_210 := Lib.hid (OW_198.out.keep hb18)
      have OW_211 := Lib.hid (own_below OW_199.out hb18 (Nat.le_refl _))
      have OW_212 := Lib.hid (own_below OW_200.out hb18 (Nat.le_refl _))
      have OW_213 := Lib.hid (OW_201.out.keep hb18)
      have OW_214 := Lib.hid (own_below OW_206.out hb18 (Nat.le_refl _))
      have BX_215 := Lib.hid (BX_202.out.below hb18 BX_202.out.lt)
      have BX_216 := Lib.hid (BX_203.out.below hb18 BX_203.out.lt)
      have BX_217 := Lib.hid (BX_204.out.below hb18 BX_204.out.lt)
      have BX_218 := Lib.hid (BX_205.out.below hb18 BX_205.out.lt)
      have hp18 := ho18.mono (show W17.heap.size ≤ _ by exact Nat.le_refl _)
      have LO_220 := Lib.hid (own_lt hp18)
      have HI_221 := Lib.hid (fun k hk => (World.ownsRow.lt hp18 k hk).2)
      have OW_219 := Lib.hid hp18
      clear BE_197 OW_198 OW_199 OW_200 OW_201 OW_206 BX_202 BX_203 BX_204 BX_205 ho18 hp18 hb18
      go_wp2_with fail
      refine (HI.out _ _ _ (rd_own OW_214.out (by first | omega | (simp [marksN_len, marksB_len]; omega))) (rd_own8 OW_219.out (by first | omega | (simp [marksN_len, marksB_len]; omega)))).mono ?_
      rintro e W19 ⟨v19_0, v19_1, v19_2, v19_3, v19_4, v19_5, v19_6, rfl, ho19, hb19⟩
      obtain ⟨⟨A19_0, k19_0, rfl⟩, ⟨A19_1, k19_1, rfl⟩, ⟨A19_2, k19_2, rfl⟩, ⟨A19_3, k19_3, rfl⟩, ⟨A19_4, k19_4, rfl⟩, ⟨A19_5, k19_5, rfl⟩, ⟨A19_6, k19_6, rfl⟩⟩ := ho19.form (by first | omega | assumption)
      have sz19 : W18.heap.size ≤ W19.heap.size := hb19.size
      have BE_222 : Hid (Below w.heap.size w W19) := Lib.hid (BE_209.out.trans (hb19.mono BE_209.out.size))
      have OW_223 := Lib.hid (OW_210.out.keep hb19)
      have OW_224 := Lib.hid (own_below OW_211.out hb19 (Nat.le_refl _))
      have OW_225 := Lib.hid (own_below OW_212.out hb19 (Nat.le_refl _))
      have OW_226 := Lib.hid (OW_213.out.keep hb19)
      have OW_227 := Lib.hid (own_below OW_214.out hb19 (Nat.le_refl _))
      have OW_228 := Lib.hid (own_below OW_219.out hb19 (Nat.le_refl _))
      have BX_229 := Lib.hid (BX_215.out.below hb19 BX_215.out.lt)
      have BX_230 := Lib.hid (BX_216.out.below hb19 BX_216.out.lt)
      have BX_231 := Lib.hid (BX_217.out.below hb19 BX_217.out.lt)
      have BX_232 := Lib.hid (BX_218.out.below hb19 BX_218.out.lt)
      obtain ⟨lo19, e_lo19⟩ : ∃ z, W18.heap.size = z := ⟨_, rfl⟩
      have a_lo19 : W18.heap.size ≤ lo19 := by rw [← e_lo19]; simp
      obtain ⟨hi19, e_hi19⟩ : ∃ z, W19.heap.size = z := ⟨_, rfl⟩
      have a_hi19 : hi19 ≤ W19.heap.size := by rw [e_hi19]; exact Nat.le_refl _
      have OW_233 : Hid (OwnSt W19 lo19 hi19 (.slice A19_0 T.data.length k19_0) (.slice A19_1 T.ret.length k19_1) (.slice A19_2 T.mem.length k19_2) (.slice A19_3 T.cells.length k19_3) (.slice A19_4 T.vars.length k19_4) (.slice A19_5 T.out.length k19_5) (.slice A19_6 T.inp.length k19_6) T) := Lib.hid (by rw [← e_lo19, ← e_hi19]; exact ho19)
      clear BE_209 OW_210 OW_211 OW_212 OW_213 OW_214 OW_219 BX_215 BX_216 BX_217 BX_218 ho19 e_lo19 e_hi19 hb19
      clear OW_227 LO_207 HI_208
      clear OW_228 LO_220 HI_221
      obtain ⟨c_234, c_235, c_236, c_237, c_238, c_239, c_240, c_241, c_242, c_243⟩ := st_cells BX_230.out
      have l_244 : W4.heap.size < W19.heap.size := BX_230.out.lt
      go_wp2_with fail
      refine (eqst_same (.slice A19_0 T.data.length k19_0) (.slice A19_1 T.ret.length k19_1) (.slice A19_2 T.mem.length k19_2) (.slice A19_3 T.cells.length k19_3) (.slice A19_4 T.vars.length k19_4) (.slice A19_5 T.out.length k19_5) (.slice A19_6 T.inp.length k19_6) (.slice A4_0 T.data.length k4_0) (.slice A4_1 T.ret.length k4_1) (.slice A4_2 T.mem.length k4_2) (.slice A4_3 T.cells.length k4_3) (.slice A4_4 T.vars.length k4_4) (.slice A4_5 T.out.length k4_5) (.slice A4_6 T.inp.length k4_6) T _ ((OW_233.out.rd (by first | omega | assumption)).below (below_alloc _ _)) ((OW_223.out.rd (by first | omega | assumption)).below (below_alloc _ _))).mono ?_
      rintro e W20 ⟨rfl, hb20⟩
      obtain ⟨kb20, hB20, hz20⟩ := boxes1 hb20
      have sz20 : W19.heap.size ≤ W20.heap.size := hB20.size
      have BE_245 : Hid (Below w.heap.size w W20) := Lib.hid (BE_222.out.trans (hB20.mono BE_222.out.size))
      have OW_246 := Lib.hid (OW_223.out.keep hB20)
      have OW_247 := Lib.hid (own_below OW_224.out hB20 (Nat.le_refl _))
      have OW_248 := Lib.hid (own_below OW_225.out hB20 (Nat.le_refl _))
      have OW_249 := Lib.hid (OW_226.out.keep hB20)
      have OW_250 := Lib.hid (OW_233.out.keep hB20)
      have BX_251 := Lib.hid (BX_229.out.below hB20 BX_229.out.lt)
      have BX_252 := Lib.hid (BX_230.out.below hB20 BX_230.out.lt)
      have BX_253 := Lib.hid (BX_231.out.below hB20 BX_231.out.lt)
      have BX_254 := Lib.hid (BX_232.out.below hB20 BX_232.out.lt)
      have BX_255 : Hid (Blk W20 W19.heap.size 33 #[.slice A19_0 T.data.length k19_0, .slice A19_1 T.ret.length k19_1, .int .i32 T.a, .slice A19_2 T.mem.length k19_2, .slice A19_3 T.cells.length k19_3, .slice A19_4 T.vars.length k19_4, .slice A19_5 T.out.length k19_5, .slice A19_6 T.inp.length k19_6, .int .i64 T.fault, .int .i64 T.fuel]) := Lib.hid kb20
      clear c_234 c_235 c_236 c_237 c_238 c_239 c_240 c_241 c_242 c_243 l_244 hb20 BE_222 OW_223 OW_224 OW_225 OW_226 OW_233 BX_229 BX_230 BX_231 BX_232 kb20 hB20
      obtain ⟨c_256, c_257, c_258, c_259, c_260, c_261, c_262, c_263, c_264, c_265⟩ := st_cells BX_254.out
      have l_266 : W7.heap.size < W20.heap.size := BX_254.out.lt
      go_wp2_with fail
      refine (heldst1 (.slice A7_0 T.data.length k7_0) (.slice A7_1 T.ret.length k7_1) (.slice A7_2 T.mem.length k7_2) (.slice A7_3 T.cells.length k7_3) (.slice A7_4 T.vars.length k7_4) (.slice A7_5 T.out.length k7_5) (.slice A7_6 T.inp.length k7_6) T (by first | omega | assumption) _ (OW_249.out.rd (by rw [markSt_tot]; first | omega | assumption))).mono ?_
      rintro e W21 ⟨rfl, hb21⟩
      have sz21 : W20.heap.size ≤ W21.heap.size := hb21.size
      have BE_267 : Hid (Below w.heap.size w W21) := Lib.hid (BE_245.out.trans (hb21.mono BE_245.out.size))
      have OW_268 := Lib.hid (OW_246.out.keep hb21)
      have OW_269 := Lib.hid (own_below OW_247.out hb21 (Nat.le_refl _))
      have OW_270 := Lib.hid (own_below OW_248.out hb21 (Nat.le_refl _))
      have OW_271 := Lib.hid (OW_249.out.keep hb21)
      have OW_272 := Lib.hid (OW_250.out.keep hb21)
      have BX_273 := Lib.hid (BX_251.out.below hb21 BX_251.out.lt)
      have BX_274 := Lib.hid (BX_252.out.below hb21 BX_252.out.lt)
      have BX_275 := Lib.hid (BX_253.out.below hb21 BX_253.out.lt)
      have BX_276 := Lib.hid (BX_254.out.below hb21 BX_254.out.lt)
      have BX_277 := Lib.hid (BX_255.out.below hb21 BX_255.out.lt)
      clear c_256 c_257 c_258 c_259 c_260 c_261 c_262 c_263 c_264 c_265 l_266 BE_245 OW_246 OW_247 OW_248 OW_249 OW_250 BX_251 BX_252 BX_253 BX_254 BX_255 hb21
      go_wp2_with fail
      go_ret
      exact ⟨rfl, BE_267.out⟩
    · have hs2 : (1048576 : Int) < (len : Int) := by omega
      have hs3 : ¬ (1048576 : Int) < (ys.length : Int) := by omega
      clear hs hx hxy hys hrb hsy h0y
      go_enter Try.func4, Try.ntmps4
      go_wp2_with fail
      refine (szstore_no A len c 1048576 (by omega) hs2 h0 _).mono ?_
      rintro e w1 ⟨rfl, hb⟩
      obtain ⟨-, hB, -⟩ := boxes1 hb
      have HB := Lib.hid hB
      clear hb hB
      go_wp2_with fail
      go_ret
      exact ⟨rfl, HB.out⟩
  · have hs3 : (1048576 : Int) < (len2 : Int) := by omega
    clear hsy hx hxy
    go_enter Try.func4, Try.ntmps4
    go_wp2_with fail
    go_ret
    exact ⟨rfl, below_alloc _ _⟩

end Go.Proofs.Ythelbjlckndklaa
