/-
  laws.FnExactReadImage answers true at all bytes.
-/
import Derived.Test.YtcddkcejjajlhaaExKit
import Derived.Test.YtcddkcejjajlhaaReadSpec
namespace Go.Proofs.Ytcddkcejjajlhaa
open Go.RowKit Go

attribute [local go_sem ↓] Go.wp_at_zero Go.wp_at_succ
theorem readL_len (bs : List Nat) : (readL bs).length ≤ 768 := by
  unfold readL
  split
  · rename_i h
    have h2 := (of_decide_eq_true h).2.1
    rw [List.length_take]
    omega
  · simp

set_option maxRecDepth 100000 in
set_option maxHeartbeats 8000000 in
theorem law_FnExactReadImage (w : World) (A : Option Addr) (len c : Nat) (h0 : len ≤ 9223372036854775807) (hx : len ≤ 4611686018427387904 → ∃ xs : List Nat, xs.length = len ∧ (∀ x ∈ xs, x < 256) ∧ RdM w (.slice A len c) xs) :
    Calls Try.prog 14 #[.slice A len c] w fun e w' => e = .returned (.bool true) ∧ Below w.heap.size w w' := by
  by_cases hs : len ≤ 1048576
  · obtain ⟨xs, rfl, hxs, hra⟩ := hx (by omega)
    have HRxs := Lib.hid (fun W (hb : Below w.heap.size w W) => hra.below hb)
    have hs3 : ¬ (1048576 : Int) < (xs.length : Int) := by omega
    have HS := Lib.hid (fun W base v (h : W.ownsRow base 5 1 v xs.length (xs.map b8v)) => spec_readimage W base v xs hxs (by omega) h)
    have HI := Lib.hid (fun W base v (h : W.ownsRow base 5 1 v xs.length (xs.map b8v)) => impl_readimage W base v xs hxs (by omega) h)
    obtain ⟨L, hL⟩ : ∃ L, readL xs = L := ⟨_, rfl⟩
    obtain ⟨q, hq⟩ : ∃ q, readOk xs = q := ⟨_, rfl⟩
    have hlen : L.length ≤ 768 := by rw [← hL]; exact readL_len xs
    rw [hL, hq] at HS HI
    clear hL hq hra hx hxs h0
    go_enter Try.func14, Try.ntmps14
    go_wp2_with fail
    refine (tob_any _ xs (by omega) _ (HRxs.out _ (Below.refl _ _))).mono ?_
    rintro e W1 ⟨tpxs, rfl, ho1, hb1⟩
    obtain ⟨A1, c1, rfl⟩ := own_form ho1
    have sz1 : w.heap.size ≤ W1.heap.size := hb1.size
    have BE_1 : Hid (Below w.heap.size w W1) := Lib.hid (hb1)
    have hp1 := ho1.mono (show w.heap.size ≤ _ by exact Nat.le_refl _)
    have LO_3 := Lib.hid (own_lt hp1)
    have HI_4 := Lib.hid (fun k hk => (World.ownsRow.lt hp1 k hk).2)
    have OW_2 := Lib.hid hp1
    clear ho1 hp1 hb1
    go_wp2_with fail
    refine (HS.out _ _ _ OW_2.out).mono ?_
    rintro e W2 ⟨u0, rfl, ho2, hb2⟩
    obtain ⟨A2, c2, rfl⟩ := own_form ho2
    have sz2 : W1.heap.size ≤ W2.heap.size := hb2.size
    have BE_5 : Hid (Below w.heap.size w W2) := Lib.hid (BE_1.out.trans (hb2.mono BE_1.out.size))
    have OW_6 := Lib.hid (own_below OW_2.out hb2 (Nat.le_refl _))
    have hp2 := ho2.mono (show W1.heap.size ≤ _ by exact Nat.le_refl _)
    have LO_8 := Lib.hid (own_lt hp2)
    have HI_9 := Lib.hid (fun k hk => (World.ownsRow.lt hp2 k hk).2)
    have OW_7 := Lib.hid hp2
    clear BE_1 OW_2 ho2 hp2 hb2
    clear OW_6 LO_3 HI_4
    go_wp2_with fail
    refine (tob_any _ xs (by omega) _ (HRxs.out _ (BE_5.out.alloc BE_5.out.size _))).mono ?_
    rintro e W3 ⟨xxsv, rfl, ho3, hb3⟩
    obtain ⟨A3, c3, rfl⟩ := own_form ho3
    obtain ⟨kb3, hB3, hz3⟩ := boxes1 hb3
    have sz3 : W2.heap.size ≤ W3.heap.size := hB3.size
    have BE_10 : Hid (Below w.heap.size w W3) := Lib.hid (BE_5.out.trans (hB3.mono BE_5.out.size))
    have OW_11 := Lib.hid (own_below OW_7.out hB3 (Nat.le_refl _))
    have BX_12 : Hid (Blk W3 W2.heap.size 26 #[.slice A2 L.length c2]) := Lib.hid kb3
    have hp3 := ho3.mono (show W2.heap.size ≤ _ by simp)
    have LO_14 := Lib.hid (own_lt hp3)
    have HI_15 := Lib.hid (fun k hk => (World.ownsRow.lt hp3 k hk).2)
    have OW_13 := Lib.hid hp3
    clear hb3 BE_5 OW_7 kb3 ho3 hp3 hB3
    go_wp2_with fail
    refine (HI.out _ _ _ OW_13.out).mono ?_
    rintro e W4 ⟨u1, rfl, ho4, hb4⟩
    obtain ⟨A4, c4, rfl⟩ := own_form ho4
    have sz4 : W3.heap.size ≤ W4.heap.size := hb4.size
    have BE_16 : Hid (Below w.heap.size w W4) := Lib.hid (BE_10.out.trans (hb4.mono BE_10.out.size))
    have OW_17 := Lib.hid (own_below OW_11.out hb4 (Nat.le_refl _))
    have OW_18 := Lib.hid (own_below OW_13.out hb4 (Nat.le_refl _))
    have BX_19 := Lib.hid (BX_12.out.below hb4 BX_12.out.lt)
    have hp4 := ho4.mono (show W3.heap.size ≤ _ by exact Nat.le_refl _)
    have LO_21 := Lib.hid (own_lt hp4)
    have HI_22 := Lib.hid (fun k hk => (World.ownsRow.lt hp4 k hk).2)
    have OW_20 := Lib.hid hp4
    clear BE_10 OW_11 OW_13 BX_12 ho4 hp4 hb4
    have c_23 : W4.cell? ⟨W2.heap.size, 0, none⟩ = some (.slice A2 L.length c2) := BX_19.out.cell 0
    have l_24 : W2.heap.size < W4.heap.size := BX_19.out.lt
    go_wp2_with fail
    refine (eqstore_same (.slice A4 L.length c4) (.slice A2 L.length c2) L _ ((rd_own OW_20.out (by first | omega | (simp [marksN_len, marksB_len]; omega))).below (below_alloc _ _)) ((rd_own OW_17.out (by first | omega | (simp [marksN_len, marksB_len]; omega))).below (below_alloc _ _))).mono ?_
    rintro e W5 ⟨rfl, hb5⟩
    obtain ⟨kb5, hB5, hz5⟩ := boxes1 hb5
    have sz5 : W4.heap.size ≤ W5.heap.size := hB5.size
    have BE_25 : Hid (Below w.heap.size w W5) := Lib.hid (BE_16.out.trans (hB5.mono BE_16.out.size))
    have OW_26 := Lib.hid (own_below OW_17.out hB5 (Nat.le_refl _))
    have OW_27 := Lib.hid (own_below OW_18.out hB5 (Nat.le_refl _))
    have OW_28 := Lib.hid (own_below OW_20.out hB5 (Nat.le_refl _))
    have BX_29 := Lib.hid (BX_19.out.below hB5 BX_19.out.lt)
    have BX_30 : Hid (Blk W5 W4.heap.size 26 #[.slice A4 L.length c4]) := Lib.hid kb5
    clear c_23 l_24 hb5 BE_16 OW_17 OW_18 OW_20 BX_19 kb5 hB5
    go_wp2_with fail
    refine (tob_any _ xs (by omega) _ (HRxs.out _ BE_25.out)).mono ?_
    rintro e W6 ⟨tcxs, rfl, ho6, hb6⟩
    obtain ⟨A6, c6, rfl⟩ := own_form ho6
    have sz6 : W5.heap.size ≤ W6.heap.size := hb6.size
    have BE_31 : Hid (Below w.heap.size w W6) := Lib.hid (BE_25.out.trans (hb6.mono BE_25.out.size))
    have OW_32 := Lib.hid (own_below OW_26.out hb6 (Nat.le_refl _))
    have OW_33 := Lib.hid (own_below OW_27.out hb6 (Nat.le_refl _))
    have OW_34 := Lib.hid (own_below OW_28.out hb6 (Nat.le_refl _))
    have BX_35 := Lib.hid (BX_29.out.below hb6 BX_29.out.lt)
    have BX_36 := Lib.hid (BX_30.out.below hb6 BX_30.out.lt)
    have hp6 := ho6.mono (show W5.heap.size ≤ _ by exact Nat.le_refl _)
    have LO_38 := Lib.hid (own_lt hp6)
    have HI_39 := Lib.hid (fun k hk => (World.ownsRow.lt hp6 k hk).2)
    have OW_37 := Lib.hid hp6
    clear BE_25 OW_26 OW_27 OW_28 BX_29 BX_30 ho6 hp6 hb6
    go_wp2_with fail
    refine (eqb_same _ _ xs _ (rd_own8 OW_33.out (by first | omega | (simp [marksN_len, marksB_len]; omega))) (rd_own8 OW_37.out (by first | omega | (simp [marksN_len, marksB_len]; omega)))).mono ?_
    rintro e W7 ⟨rfl, hb7⟩
    have sz7 : W6.heap.size ≤ W7.heap.size := hb7.size
    have BE_40 : Hid (Below w.heap.size w W7) := Lib.hid (BE_31.out.trans (hb7.mono BE_31.out.size))
    have OW_41 := Lib.hid (own_below OW_32.out hb7 (Nat.le_refl _))
    have OW_42 := Lib.hid (own_below OW_33.out hb7 (Nat.le_refl _))
    have OW_43 := Lib.hid (own_below OW_34.out hb7 (Nat.le_refl _))
    have OW_44 := Lib.hid (own_below OW_37.out hb7 (Nat.le_refl _))
    have BX_45 := Lib.hid (BX_35.out.below hb7 BX_35.out.lt)
    have BX_46 := Lib.hid (BX_36.out.below hb7 BX_36.out.lt)
    clear BE_31 OW_32 OW_33 OW_34 OW_37 BX_35 BX_36 hb7
    clear OW_44 LO_38 HI_39
    go_wp2_with fail
    refine (markb1 _ (.slice A3 xs.length c3) xs (by omega) _ OW_42.out).mono ?_
    rintro e W8 ⟨rfl, ho8, hb8⟩
    have sz8 : W7.heap.size ≤ W8.heap.size := hb8.size
    have BE_47 : Hid (Below w.heap.size w W8) := Lib.hid (BE_40.out.grown hb8 BE_40.out.size (fun k hk => Nat.le_trans (by first | exact Nat.le_refl _ | omega) (LO_14.out k hk)))
    have OW_48 := Lib.hid (OW_41.out.kept hb8 (own_apart HI_9.out LO_14.out (by omega)))
    have OW_49 := Lib.hid (OW_43.out.kept hb8 (own_apart2 LO_21.out HI_15.out (by omega)))
    have BX_50 := Lib.hid (BX_45.out.grown hb8 (box_ne BX_45.out OW_42.out (by decide)))
    have BX_51 := Lib.hid (BX_46.out.grown hb8 (box_ne BX_46.out OW_42.out (by decide)))
    have OW_52 := Lib.hid ho8
    clear BE_40 OW_41 OW_43 BX_45 BX_46 OW_42 ho8 hb8
    have hk0 : ¬ ((1 : Int) + (xs.length : Int) < 0) := by omega
    have c_53 : W8.cell? ⟨W4.heap.size, 0, none⟩ = some (.slice A4 L.length c4) := BX_51.out.cell 0
    have c_54 : W8.cell? ⟨W2.heap.size, 0, none⟩ = some (.slice A2 L.length c2) := BX_50.out.cell 0
    go_wp2_with fail
    refine (eqstore_same (.slice A4 L.length c4) (.slice A2 L.length c2) L _ (rd_own OW_49.out (by first | omega | (simp [marksN_len, marksB_len]; omega))) (rd_own OW_48.out (by first | omega | (simp [marksN_len, marksB_len]; omega)))).mono ?_
    rintro e W9 ⟨rfl, hb9⟩
    have sz9 : W8.heap.size ≤ W9.heap.size := hb9.size
    have BE_55 : Hid (Below w.heap.size w W9) := Lib.hid (BE_47.out.trans (hb9.mono BE_47.out.size))
    have OW_56 := Lib.hid (own_below OW_48.out hb9 (Nat.le_refl _))
    have OW_57 := Lib.hid (own_below OW_52.out hb9 (Nat.le_refl _))
    have OW_58 := Lib.hid (own_below OW_49.out hb9 (Nat.le_refl _))
    have BX_59 := Lib.hid (BX_50.out.below hb9 BX_50.out.lt)
    have BX_60 := Lib.hid (BX_51.out.below hb9 BX_51.out.lt)
    clear c_53 c_54 BE_47 OW_48 OW_52 OW_49 BX_50 BX_51 hb9
    clear hk0
    have c_61 : W9.cell? ⟨W4.heap.size, 0, none⟩ = some (.slice A4 L.length c4) := BX_60.out.cell 0
    go_wp2_with fail
    refine (markstore1 _ (.slice A4 L.length c4) L (by omega) _ OW_58.out).mono ?_
    rintro e W10 ⟨rfl, ho10, hb10⟩
    have sz10 : W9.heap.size ≤ W10.heap.size := hb10.size
    have BE_62 : Hid (Below w.heap.size w W10) := Lib.hid (BE_55.out.grown hb10 BE_55.out.size (fun k hk => Nat.le_trans (by first | exact Nat.le_refl _ | omega) (LO_21.out k hk)))
    have OW_63 := Lib.hid (OW_56.out.kept hb10 (own_apart HI_9.out LO_21.out (by omega)))
    have OW_64 := Lib.hid (OW_57.out.kept hb10 (own_apart HI_15.out LO_21.out (by omega)))
    have BX_65 := Lib.hid (BX_59.out.grown hb10 (box_ne BX_59.out OW_58.out (by decide)))
    have BX_66 := Lib.hid (BX_60.out.grown hb10 (box_ne BX_60.out OW_58.out (by decide)))
    have OW_67 := Lib.hid ho10
    clear c_61 BE_55 OW_56 OW_57 BX_59 BX_60 OW_58 ho10 hb10
    have c_68 : W10.cell? ⟨W4.heap.size, 0, none⟩ = some (.slice A4 L.length c4) := BX_66.out.cell 0
    go_wp2_with fail
    refine (heldstore1 (.slice A4 L.length c4) L.length (by omega) _ (rd_own OW_67.out (by first | omega | (simp [marksN_len, marksB_len]; omega)))).mono ?_
    rintro e W11 ⟨rfl, hb11⟩
    have sz11 : W10.heap.size ≤ W11.heap.size := hb11.size
    have BE_69 : Hid (Below w.heap.size w W11) := Lib.hid (BE_62.out.trans (hb11.mono BE_62.out.size))
    have OW_70 := Lib.hid (own_below OW_63.out hb11 (Nat.le_refl _))
    have OW_71 := Lib.hid (own_below OW_64.out hb11 (Nat.le_refl _))
    have OW_72 := Lib.hid (own_below OW_67.out hb11 (Nat.le_refl _))
    have BX_73 := Lib.hid (BX_65.out.below hb11 BX_65.out.lt)
    have BX_74 := Lib.hid (BX_66.out.below hb11 BX_66.out.lt)
    clear c_68 BE_62 OW_63 OW_64 OW_67 BX_65 BX_66 hb11
    have hk1 : ¬ ((1 : Int) + (L.length : Int) < 0) := by omega
    go_wp2_with fail
    refine (tob_any _ xs (by omega) _ (HRxs.out _ BE_69.out)).mono ?_
    rintro e W12 ⟨tqxs, rfl, ho12, hb12⟩
    obtain ⟨A12, c12, rfl⟩ := own_form ho12
    have sz12 : W11.heap.size ≤ W12.heap.size := hb12.size
    have BE_75 : Hid (Below w.heap.size w W12) := Lib.hid (BE_69.out.trans (hb12.mono BE_69.out.size))
    have OW_76 := Lib.hid (own_below OW_70.out hb12 (Nat.le_refl _))
    have OW_77 := Lib.hid (own_below OW_71.out hb12 (Nat.le_refl _))
    have OW_78 := Lib.hid (own_below OW_72.out hb12 (Nat.le_refl _))
    have BX_79 := Lib.hid (BX_73.out.below hb12 BX_73.out.lt)
    have BX_80 := Lib.hid (BX_74.out.below hb12 BX_74.out.lt)
    have hp12 := ho12.mono (show W11.heap.size ≤ _ by exact Nat.le_refl _)
    have LO_82 := Lib.hid (own_lt hp12)
    have HI_83 := Lib.hid (fun k hk => (World.ownsRow.lt hp12 k hk).2)
    have OW_81 := Lib.hid hp12
    clear BE_69 OW_70 OW_71 OW_72 BX_73 BX_74 ho12 hp12 hb12
    go_wp2_with fail
    refine (HI.out _ _ _ OW_81.out).mono ?_
    rintro e W13 ⟨u2, rfl, ho13, hb13⟩
    obtain ⟨A13, c13, rfl⟩ := own_form ho13
    have sz13 : W12.heap.size ≤ W13.heap.size := hb13.size
    have BE_84 : Hid (Below w.heap.size w W13) := Lib.hid (BE_75.out.trans (hb13.mono BE_75.out.size))
    have OW_85 := Lib.hid (own_below OW_76.out hb13 (Nat.le_refl _))
    have OW_86 := Lib.hid (own_below OW_77.out hb13 (Nat.le_refl _))
    have OW_87 := Lib.hid (own_below OW_78.out hb13 (Nat.le_refl _))
    have OW_88 := Lib.hid (own_below OW_81.out hb13 (Nat.le_refl _))
    have BX_89 := Lib.hid (BX_79.out.below hb13 BX_79.out.lt)
    have BX_90 := Lib.hid (BX_80.out.below hb13 BX_80.out.lt)
    have hp13 := ho13.mono (show W12.heap.size ≤ _ by exact Nat.le_refl _)
    have LO_92 := Lib.hid (own_lt hp13)
    have HI_93 := Lib.hid (fun k hk => (World.ownsRow.lt hp13 k hk).2)
    have OW_91 := Lib.hid hp13
    clear BE_75 OW_76 OW_77 OW_78 OW_81 BX_79 BX_80 ho13 hp13 hb13
    have c_94 : W13.cell? ⟨W2.heap.size, 0, none⟩ = some (.slice A2 L.length c2) := BX_89.out.cell 0
    have l_95 : W2.heap.size < W13.heap.size := BX_89.out.lt
    go_wp2_with fail
    refine (eqstore_same (.slice A13 L.length c13) (.slice A2 L.length c2) L _ ((rd_own OW_91.out (by first | omega | (simp [marksN_len, marksB_len]; omega))).below (below_alloc _ _)) ((rd_own OW_85.out (by first | omega | (simp [marksN_len, marksB_len]; omega))).below (below_alloc _ _))).mono ?_
    rintro e W14 ⟨rfl, hb14⟩
    obtain ⟨kb14, hB14, hz14⟩ := boxes1 hb14
    have sz14 : W13.heap.size ≤ W14.heap.size := hB14.size
    have BE_96 : Hid (Below w.heap.size w W14) := Lib.hid (BE_84.out.trans (hB14.mono BE_84.out.size))
    have OW_97 := Lib.hid (own_below OW_85.out hB14 (Nat.le_refl _))
    have OW_98 := Lib.hid (own_below OW_86.out hB14 (Nat.le_refl _))
    have OW_99 := Lib.hid (own_below OW_87.out hB14 (Nat.le_refl _))
    have OW_100 := Lib.hid (own_below OW_88.out hB14 (Nat.le_refl _))
    have OW_101 := Lib.hid (own_below OW_91.out hB14 (Nat.le_refl _))
    have BX_102 := Lib.hid (BX_89.out.below hB14 BX_89.out.lt)
    have BX_103 := Lib.hid (BX_90.out.below hB14 BX_90.out.lt)
    have BX_104 : Hid (Blk W14 W13.heap.size 26 #[.slice A13 L.length c13]) := Lib.hid kb14
    clear c_94 l_95 hb14 BE_84 OW_85 OW_86 OW_87 OW_88 OW_91 BX_89 BX_90 kb14 hB14
    have c_105 : W14.cell? ⟨W4.heap.size, 0, none⟩ = some (.slice A4 L.length c4) := BX_103.out.cell 0
    go_wp2_with fail
    refine (heldstore1 (.slice A4 L.length c4) L.length (by omega) _ (rd_own OW_99.out (by first | omega | (simp [marksN_len, marksB_len]; omega)))).mono ?_
    rintro e W15 ⟨rfl, hb15⟩
    have sz15 : W14.heap.size ≤ W15.heap.size := hb15.size
    have BE_106 : Hid (Below w.heap.size w W15) := Lib.hid (BE_96.out.trans (hb15.mono BE_96.out.size))
    have OW_107 := Lib.hid (own_below OW_97.out hb15 (Nat.le_refl _))
    have OW_108 := Lib.hid (own_below OW_98.out hb15 (Nat.le_refl _))
    have OW_109 := Lib.hid (own_below OW_99.out hb15 (Nat.le_refl _))
    have OW_110 := Lib.hid (own_below OW_100.out hb15 (Nat.le_refl _))
    have OW_111 := Lib.hid (own_below OW_101.out hb15 (Nat.le_refl _))
    have BX_112 := Lib.hid (BX_102.out.below hb15 BX_102.out.lt)
    have BX_113 := Lib.hid (BX_103.out.below hb15 BX_103.out.lt)
    have BX_114 := Lib.hid (BX_104.out.below hb15 BX_104.out.lt)
    clear c_105 BE_96 OW_97 OW_98 OW_99 OW_100 OW_101 BX_102 BX_103 BX_104 hb15
    go_wp2_with fail
    go_ret
    exact ⟨rfl, BE_106.out⟩
  · have hs3 : (1048576 : Int) < (len : Int) := by omega
    clear hs hx
    go_enter Try.func14, Try.ntmps14
    go_wp2_with fail
    go_ret
    exact ⟨rfl, Below.refl _ _⟩

end Go.Proofs.Ytcddkcejjajlhaa
