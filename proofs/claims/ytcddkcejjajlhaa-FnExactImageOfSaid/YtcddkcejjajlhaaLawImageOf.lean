/-
  laws.FnExactImageOf answers true at every store.
-/
import Derived.Test.YtcddkcejjajlhaaExKit
import Derived.Test.YtcddkcejjajlhaaImgSpec
namespace Go.Proofs.Ytcddkcejjajlhaa
open Go.RowKit Go

attribute [local go_sem ↓] Go.wp_at_zero Go.wp_at_succ
theorem imgC_len (l : List Nat) : (imgC l).length ≤ 4000 := by
  unfold imgC
  split
  · rename_i h
    have := (of_decide_eq_true h).2
    rw [imageL_len]
    omega
  · simp

set_option maxRecDepth 100000 in
set_option maxHeartbeats 8000000 in
theorem law_FnExactImageOf  (w : World) (A : Option Addr) (len c : Nat) (h0 : len ≤ 9223372036854775807) (hx : len ≤ 4611686018427387904 → ∃ xs : List Nat, xs.length = len ∧ (∀ x ∈ xs, x < 4294967296) ∧ RdN w (.slice A len c) xs) :
    Calls Try.prog 13 #[stA (.slice A len c)] w fun e w' => e = .returned (.bool true) ∧ Below w.heap.size w w' := by
  by_cases hs : len ≤ 1048576
  · obtain ⟨xs, rfl, hxs, hra⟩ := hx (by omega)
    have HRa := Lib.hid (fun W (hb : Below w.heap.size w W) => hra.below hb)
    have HS := Lib.hid (fun v W (h : RdN W v xs) => spec_imageof v xs hxs W h)
    have HI := Lib.hid (fun v W (h : RdN W v xs) => impl_imageof v xs hxs W h)
    obtain ⟨L, hL⟩ : ∃ L, imgC xs = L := ⟨_, rfl⟩
    have hlen : L.length ≤ 4000 := by rw [← hL]; exact imgC_len xs
    rw [hL] at HS HI
    clear hL
    clear hra hx hxs h0
    go_enter Try.func13, Try.ntmps13
    go_wp2_with fail
    refine (szstore_fit A xs.length c 1048576 (by omega) (by omega) _).mono ?_
    rintro e W1 ⟨rfl, hb1⟩
    obtain ⟨kb1, hB1, hz1⟩ := boxes1 hb1
    have sz1 : w.heap.size ≤ W1.heap.size := hB1.size
    have BE_1 : Hid (Below w.heap.size w W1) := Lib.hid (hB1)
    have BX_2 : Hid (Blk W1 w.heap.size 45 #[.slice A xs.length c]) := Lib.hid kb1
    clear hb1 kb1 hB1
    have c_3 : W1.cell? ⟨w.heap.size, 0, none⟩ = some (.slice A xs.length c) := BX_2.out.cell 0
    go_wp2_with fail
    refine (tostore_any _ xs (by omega) _ (HRa.out _ BE_1.out)).mono ?_
    rintro e W2 ⟨tpxs, rfl, ho2, hb2⟩
    obtain ⟨A2, c2, rfl⟩ := own_form ho2
    have sz2 : W1.heap.size ≤ W2.heap.size := hb2.size
    have BE_4 : Hid (Below w.heap.size w W2) := Lib.hid (BE_1.out.trans (hb2.mono BE_1.out.size))
    have BX_5 := Lib.hid (BX_2.out.below hb2 BX_2.out.lt)
    have hp2 := ho2.mono (show W1.heap.size ≤ _ by exact Nat.le_refl _)
    have LO_7 := Lib.hid (own_lt hp2)
    have HI_8 := Lib.hid (fun k hk => (World.ownsRow.lt hp2 k hk).2)
    have OW_6 := Lib.hid hp2
    clear c_3 BE_1 BX_2 ho2 hp2 hb2
    go_wp2_with fail
    refine (HS.out _ _ (rd_own OW_6.out (by first | omega | (simp [marksN_len, marksB_len]; omega)))).mono ?_
    rintro e W3 ⟨u0, rfl, ho3, hb3⟩
    obtain ⟨A3, c3, rfl⟩ := own_form ho3
    have sz3 : W2.heap.size ≤ W3.heap.size := hb3.size
    have BE_9 : Hid (Below w.heap.size w W3) := Lib.hid (BE_4.out.trans (hb3.mono BE_4.out.size))
    have OW_10 := Lib.hid (own_below OW_6.out hb3 (Nat.le_refl _))
    have BX_11 := Lib.hid (BX_5.out.below hb3 BX_5.out.lt)
    have hp3 := ho3.mono (show W2.heap.size ≤ _ by exact Nat.le_refl _)
    have LO_13 := Lib.hid (own_lt hp3)
    have HI_14 := Lib.hid (fun k hk => (World.ownsRow.lt hp3 k hk).2)
    have OW_12 := Lib.hid hp3
    clear BE_4 OW_6 BX_5 ho3 hp3 hb3
    clear OW_10 LO_7 HI_8
    have c_15 : W3.cell? ⟨w.heap.size, 0, none⟩ = some (.slice A xs.length c) := BX_11.out.cell 0
    go_wp2_with fail
    refine (tostore_any _ xs (by omega) _ (HRa.out _ BE_9.out)).mono ?_
    rintro e W4 ⟨xxsv, rfl, ho4, hb4⟩
    obtain ⟨A4, c4, rfl⟩ := own_form ho4
    have sz4 : W3.heap.size ≤ W4.heap.size := hb4.size
    have BE_16 : Hid (Below w.heap.size w W4) := Lib.hid (BE_9.out.trans (hb4.mono BE_9.out.size))
    have OW_17 := Lib.hid (own_below OW_12.out hb4 (Nat.le_refl _))
    have BX_18 := Lib.hid (BX_11.out.below hb4 BX_11.out.lt)
    have hp4 := ho4.mono (show W3.heap.size ≤ _ by exact Nat.le_refl _)
    have LO_20 := Lib.hid (own_lt hp4)
    have HI_21 := Lib.hid (fun k hk => (World.ownsRow.lt hp4 k hk).2)
    have OW_19 := Lib.hid hp4
    clear c_15 BE_9 OW_12 BX_11 ho4 hp4 hb4
    go_wp2_with fail
    refine (HI.out _ _ ((rd_own OW_19.out (by first | omega | (simp [marksN_len, marksB_len]; omega))).below (below_alloc _ _))).mono ?_
    rintro e W5 ⟨u1, rfl, ho5, hb5⟩
    obtain ⟨A5, c5, rfl⟩ := own_form ho5
    obtain ⟨kb5, hB5, hz5⟩ := boxes1 hb5
    have sz5 : W4.heap.size ≤ W5.heap.size := hB5.size
    have BE_22 : Hid (Below w.heap.size w W5) := Lib.hid (BE_16.out.trans (hB5.mono BE_16.out.size))
    have OW_23 := Lib.hid (own_below OW_17.out hB5 (Nat.le_refl _))
    have OW_24 := Lib.hid (own_below OW_19.out hB5 (Nat.le_refl _))
    have BX_25 := Lib.hid (BX_18.out.below hB5 BX_18.out.lt)
    have BX_26 : Hid (Blk W5 W4.heap.size 26 #[.slice A4 xs.length c4]) := Lib.hid kb5
    have hp5 := ho5.mono (show W4.heap.size ≤ _ by simp)
    have LO_28 := Lib.hid (own_lt hp5)
    have HI_29 := Lib.hid (fun k hk => (World.ownsRow.lt hp5 k hk).2)
    have OW_27 := Lib.hid hp5
    clear hb5 BE_16 OW_17 OW_19 BX_18 kb5 ho5 hp5 hB5
    go_wp2_with fail
    refine (eqb_same (.slice A5 L.length c5) (.slice A3 L.length c3) L _ (rd_own8 OW_27.out (by first | omega | (simp [marksN_len, marksB_len]; omega))) (rd_own8 OW_23.out (by first | omega | (simp [marksN_len, marksB_len]; omega)))).mono ?_
    rintro e W6 ⟨rfl, hb6⟩
    have sz6 : W5.heap.size ≤ W6.heap.size := hb6.size
    have BE_30 : Hid (Below w.heap.size w W6) := Lib.hid (BE_22.out.trans (hb6.mono BE_22.out.size))
    have OW_31 := Lib.hid (own_below OW_23.out hb6 (Nat.le_refl _))
    have OW_32 := Lib.hid (own_below OW_24.out hb6 (Nat.le_refl _))
    have OW_33 := Lib.hid (own_below OW_27.out hb6 (Nat.le_refl _))
    have BX_34 := Lib.hid (BX_25.out.below hb6 BX_25.out.lt)
    have BX_35 := Lib.hid (BX_26.out.below hb6 BX_26.out.lt)
    clear BE_22 OW_23 OW_24 OW_27 BX_25 BX_26 hb6
    have c_36 : W6.cell? ⟨w.heap.size, 0, none⟩ = some (.slice A xs.length c) := BX_34.out.cell 0
    have c_37 : W6.cell? ⟨W4.heap.size, 0, none⟩ = some (.slice A4 xs.length c4) := BX_35.out.cell 0
    go_wp2_with fail
    have HS7 := Lib.hid (BE_30.out.drew)
    go_region_held3 (fun w' => w'.cell? ⟨W4.heap.size, 0, none⟩ = some (.slice A4 xs.length c4) ∧ w'.cell? ⟨w.heap.size, 0, none⟩ = some (.slice A xs.length c)) (first | exact ⟨BX_35.out.cell 0, BX_34.out.cell 0⟩ | go_keep | exact ⟨(Blk.below BX_35.out.drew hb7_1 BX_35.out.lt).cell 0, (Blk.below BX_34.out.drew hb7_1 BX_34.out.lt).cell 0⟩ | exact ⟨(Blk.below BX_35.out.drew (hb7_1.trans (hb7_2.mono hb7_1.size)) BX_35.out.lt).cell 0, (Blk.below BX_34.out.drew (hb7_1.trans (hb7_2.mono hb7_1.size)) BX_34.out.lt).cell 0⟩) (first | (go_at_call 32; refine (tostore_any _ xs (by omega) _ (HRa.out _ HS7.out)).mono ?_; rintro e V7 ⟨tc7, rfl, hot7, hb7_1⟩) | (go_at_call 34; refine (eqstore_same _ _ xs _ (RdN.below (RdN.drew (rd_own OW_32.out (by first | omega | (simp [marksN_len, marksB_len]; omega)))) hb7_1) (rd_own hot7 (by omega))).mono ?_; rintro e W7 ⟨rfl, hb7_2⟩))
    have hB7 : Below W6.heap.size W6 W7 := (Below.refl _ _).drew.trans (hb7_1.trans (hb7_2.mono hb7_1.size))
    have sz7 : W6.heap.size ≤ W7.heap.size := hB7.size
    have BE_38 : Hid (Below w.heap.size w W7) := Lib.hid (BE_30.out.trans (hB7.mono BE_30.out.size))
    have OW_39 := Lib.hid (own_below OW_31.out hB7 (Nat.le_refl _))
    have OW_40 := Lib.hid (own_below OW_32.out hB7 (Nat.le_refl _))
    have OW_41 := Lib.hid (own_below OW_33.out hB7 (Nat.le_refl _))
    have BX_42 := Lib.hid (BX_34.out.below hB7 BX_34.out.lt)
    have BX_43 := Lib.hid (BX_35.out.below hB7 BX_35.out.lt)
    clear hb7_1 hb7_2 hot7 HS7 c_36 c_37 BE_30 OW_31 OW_32 OW_33 BX_34 BX_35 hB7
    have c_44 : W7.cell? ⟨W4.heap.size, 0, none⟩ = some (.slice A4 xs.length c4) := BX_43.out.cell 0
    go_wp2_with fail
    refine (markstore1 _ (.slice A4 xs.length c4) xs (by omega) _ OW_40.out).mono ?_
    rintro e W8 ⟨rfl, ho8, hb8⟩
    have sz8 : W7.heap.size ≤ W8.heap.size := hb8.size
    have BE_45 : Hid (Below w.heap.size w W8) := Lib.hid (BE_38.out.grown hb8 BE_38.out.size (fun k hk => Nat.le_trans (by first | exact Nat.le_refl _ | omega) (LO_20.out k hk)))
    have OW_46 := Lib.hid (OW_39.out.kept hb8 (own_apart HI_14.out LO_20.out (by omega)))
    have OW_47 := Lib.hid (OW_41.out.kept hb8 (own_apart2 LO_28.out HI_21.out (by omega)))
    have BX_48 := Lib.hid (BX_42.out.grown hb8 (box_ne BX_42.out OW_40.out (by decide)))
    have BX_49 := Lib.hid (BX_43.out.grown hb8 (box_ne BX_43.out OW_40.out (by decide)))
    have OW_50 := Lib.hid ho8
    clear c_44 BE_38 OW_39 OW_41 BX_42 BX_43 OW_40 ho8 hb8
    have hk0 : ¬ ((1 : Int) + (xs.length : Int) < 0) := by omega
    go_wp2_with fail
    refine (eqb_same (.slice A5 L.length c5) (.slice A3 L.length c3) L _ (rd_own8 OW_47.out (by first | omega | (simp [marksN_len, marksB_len]; omega))) (rd_own8 OW_46.out (by first | omega | (simp [marksN_len, marksB_len]; omega)))).mono ?_
    rintro e W9 ⟨rfl, hb9⟩
    have sz9 : W8.heap.size ≤ W9.heap.size := hb9.size
    have BE_51 : Hid (Below w.heap.size w W9) := Lib.hid (BE_45.out.trans (hb9.mono BE_45.out.size))
    have OW_52 := Lib.hid (own_below OW_46.out hb9 (Nat.le_refl _))
    have OW_53 := Lib.hid (own_below OW_50.out hb9 (Nat.le_refl _))
    have OW_54 := Lib.hid (own_below OW_47.out hb9 (Nat.le_refl _))
    have BX_55 := Lib.hid (BX_48.out.below hb9 BX_48.out.lt)
    have BX_56 := Lib.hid (BX_49.out.below hb9 BX_49.out.lt)
    clear BE_45 OW_46 OW_50 OW_47 BX_48 BX_49 hb9
    clear hk0
    go_wp2_with fail
    refine (markb1 _ (.slice A5 L.length c5) L (by omega) _ OW_54.out).mono ?_
    rintro e W10 ⟨rfl, ho10, hb10⟩
    have sz10 : W9.heap.size ≤ W10.heap.size := hb10.size
    have BE_57 : Hid (Below w.heap.size w W10) := Lib.hid (BE_51.out.grown hb10 BE_51.out.size (fun k hk => Nat.le_trans (by first | exact Nat.le_refl _ | omega) (LO_28.out k hk)))
    have OW_58 := Lib.hid (OW_52.out.kept hb10 (own_apart HI_14.out LO_28.out (by omega)))
    have OW_59 := Lib.hid (OW_53.out.kept hb10 (own_apart HI_21.out LO_28.out (by omega)))
    have BX_60 := Lib.hid (BX_55.out.grown hb10 (box_ne BX_55.out OW_54.out (by decide)))
    have BX_61 := Lib.hid (BX_56.out.grown hb10 (box_ne BX_56.out OW_54.out (by decide)))
    have OW_62 := Lib.hid ho10
    clear BE_51 OW_52 OW_53 BX_55 BX_56 OW_54 ho10 hb10
    go_wp2_with fail
    refine (heldb1 (.slice A5 L.length c5) L.length (by omega) _ (rd_own8 OW_62.out (by first | omega | (simp [marksN_len, marksB_len]; omega)))).mono ?_
    rintro e W11 ⟨rfl, hb11⟩
    have sz11 : W10.heap.size ≤ W11.heap.size := hb11.size
    have BE_63 : Hid (Below w.heap.size w W11) := Lib.hid (BE_57.out.trans (hb11.mono BE_57.out.size))
    have OW_64 := Lib.hid (own_below OW_58.out hb11 (Nat.le_refl _))
    have OW_65 := Lib.hid (own_below OW_59.out hb11 (Nat.le_refl _))
    have OW_66 := Lib.hid (own_below OW_62.out hb11 (Nat.le_refl _))
    have BX_67 := Lib.hid (BX_60.out.below hb11 BX_60.out.lt)
    have BX_68 := Lib.hid (BX_61.out.below hb11 BX_61.out.lt)
    clear BE_57 OW_58 OW_59 OW_62 BX_60 BX_61 hb11
    have hk1 : ¬ ((1 : Int) + (L.length : Int) < 0) := by omega
    have c_69 : W11.cell? ⟨w.heap.size, 0, none⟩ = some (.slice A xs.length c) := BX_67.out.cell 0
    go_wp2_with fail
    refine (tostore_any _ xs (by omega) _ (HRa.out _ BE_63.out)).mono ?_
    rintro e W12 ⟨tqxs, rfl, ho12, hb12⟩
    obtain ⟨A12, c12, rfl⟩ := own_form ho12
    have sz12 : W11.heap.size ≤ W12.heap.size := hb12.size
    have BE_70 : Hid (Below w.heap.size w W12) := Lib.hid (BE_63.out.trans (hb12.mono BE_63.out.size))
    have OW_71 := Lib.hid (own_below OW_64.out hb12 (Nat.le_refl _))
    have OW_72 := Lib.hid (own_below OW_65.out hb12 (Nat.le_refl _))
    have OW_73 := Lib.hid (own_below OW_66.out hb12 (Nat.le_refl _))
    have BX_74 := Lib.hid (BX_67.out.below hb12 BX_67.out.lt)
    have BX_75 := Lib.hid (BX_68.out.below hb12 BX_68.out.lt)
    have hp12 := ho12.mono (show W11.heap.size ≤ _ by exact Nat.le_refl _)
    have LO_77 := Lib.hid (own_lt hp12)
    have HI_78 := Lib.hid (fun k hk => (World.ownsRow.lt hp12 k hk).2)
    have OW_76 := Lib.hid hp12
    clear c_69 BE_63 OW_64 OW_65 OW_66 BX_67 BX_68 ho12 hp12 hb12
    go_wp2_with fail
    refine (HI.out _ _ (rd_own OW_76.out (by first | omega | (simp [marksN_len, marksB_len]; omega)))).mono ?_
    rintro e W13 ⟨u2, rfl, ho13, hb13⟩
    obtain ⟨A13, c13, rfl⟩ := own_form ho13
    have sz13 : W12.heap.size ≤ W13.heap.size := hb13.size
    have BE_79 : Hid (Below w.heap.size w W13) := Lib.hid (BE_70.out.trans (hb13.mono BE_70.out.size))
    have OW_80 := Lib.hid (own_below OW_71.out hb13 (Nat.le_refl _))
    have OW_81 := Lib.hid (own_below OW_72.out hb13 (Nat.le_refl _))
    have OW_82 := Lib.hid (own_below OW_73.out hb13 (Nat.le_refl _))
    have OW_83 := Lib.hid (own_below OW_76.out hb13 (Nat.le_refl _))
    have BX_84 := Lib.hid (BX_74.out.below hb13 BX_74.out.lt)
    have BX_85 := Lib.hid (BX_75.out.below hb13 BX_75.out.lt)
    have hp13 := ho13.mono (show W12.heap.size ≤ _ by exact Nat.le_refl _)
    have LO_87 := Lib.hid (own_lt hp13)
    have HI_88 := Lib.hid (fun k hk => (World.ownsRow.lt hp13 k hk).2)
    have OW_86 := Lib.hid hp13
    clear BE_70 OW_71 OW_72 OW_73 OW_76 BX_74 BX_75 ho13 hp13 hb13
    go_wp2_with fail
    refine (eqb_same (.slice A13 L.length c13) (.slice A3 L.length c3) L _ (rd_own8 OW_86.out (by first | omega | (simp [marksN_len, marksB_len]; omega))) (rd_own8 OW_80.out (by first | omega | (simp [marksN_len, marksB_len]; omega)))).mono ?_
    rintro e W14 ⟨rfl, hb14⟩
    have sz14 : W13.heap.size ≤ W14.heap.size := hb14.size
    have BE_89 : Hid (Below w.heap.size w W14) := Lib.hid (BE_79.out.trans (hb14.mono BE_79.out.size))
    have OW_90 := Lib.hid (own_below OW_80.out hb14 (Nat.le_refl _))
    have OW_91 := Lib.hid (own_below OW_81.out hb14 (Nat.le_refl _))
    have OW_92 := Lib.hid (own_below OW_82.out hb14 (Nat.le_refl _))
    have OW_93 := Lib.hid (own_below OW_83.out hb14 (Nat.le_refl _))
    have OW_94 := Lib.hid (own_below OW_86.out hb14 (Nat.le_refl _))
    have BX_95 := Lib.hid (BX_84.out.below hb14 BX_84.out.lt)
    have BX_96 := Lib.hid (BX_85.out.below hb14 BX_85.out.lt)
    clear BE_79 OW_80 OW_81 OW_82 OW_83 OW_86 BX_84 BX_85 hb14
    go_wp2_with fail
    refine (heldb1 (.slice A5 L.length c5) L.length (by omega) _ (rd_own8 OW_92.out (by first | omega | (simp [marksN_len, marksB_len]; omega)))).mono ?_
    rintro e W15 ⟨rfl, hb15⟩
    have sz15 : W14.heap.size ≤ W15.heap.size := hb15.size
    have BE_97 : Hid (Below w.heap.size w W15) := Lib.hid (BE_89.out.trans (hb15.mono BE_89.out.size))
    have OW_98 := Lib.hid (own_below OW_90.out hb15 (Nat.le_refl _))
    have OW_99 := Lib.hid (own_below OW_91.out hb15 (Nat.le_refl _))
    have OW_100 := Lib.hid (own_below OW_92.out hb15 (Nat.le_refl _))
    have OW_101 := Lib.hid (own_below OW_93.out hb15 (Nat.le_refl _))
    have OW_102 := Lib.hid (own_below OW_94.out hb15 (Nat.le_refl _))
    have BX_103 := Lib.hid (BX_95.out.below hb15 BX_95.out.lt)
    have BX_104 := Lib.hid (BX_96.out.below hb15 BX_96.out.lt)
    clear BE_89 OW_90 OW_91 OW_92 OW_93 OW_94 BX_95 BX_96 hb15
    go_wp2_with fail
    go_ret
    exact ⟨rfl, BE_97.out⟩
  · have hs2 : (1048576 : Int) < (len : Int) := by omega
    clear hs hx
    go_enter Try.func13, Try.ntmps13
    go_wp2_with fail
    refine (szstore_no A len c 1048576 (by omega) hs2 h0 _).mono ?_
    rintro e w1 ⟨rfl, hb⟩
    obtain ⟨-, hB, -⟩ := boxes1 hb
    have HB := Lib.hid hB
    clear hb hB
    go_wp2_with fail
    go_ret
    exact ⟨rfl, HB.out⟩

end Go.Proofs.Ytcddkcejjajlhaa
