/-
  laws.FnExactCopyBlock answers true at every store and blocks.
-/
import Derived.Test.YtcddkcejjajlhaaExKit
import Derived.Test.YtcddkcejjajlhaaLawPutBlk
import Derived.Test.YtcddkcejjajlhaaCopyBlk
namespace Go.Proofs.Ytcddkcejjajlhaa
open Go.RowKit Go

attribute [local go_sem ↓] Go.wp_at_zero Go.wp_at_succ
theorem copyC_len (l : List Nat) (f t : Int) : (copyC l f t).length ≤ l.length := by
  unfold copyC
  split
  · exact putC_len _ _ _
  · simp

set_option maxRecDepth 100000 in
set_option maxHeartbeats 8000000 in
theorem law_FnExactCopyBlock (f t : Int) (w : World) (A : Option Addr) (len c : Nat) (h0 : len ≤ 9223372036854775807) (hx : len ≤ 4611686018427387904 → ∃ xs : List Nat, xs.length = len ∧ (∀ x ∈ xs, x < 4294967296) ∧ RdN w (.slice A len c) xs) :
    Calls Try.prog 10 #[stA (.slice A len c), .int .i64 f, .int .i64 t] w fun e w' => e = .returned (.bool true) ∧ Below w.heap.size w w' := by
  by_cases hs : len ≤ 1048576
  · obtain ⟨xs, rfl, hxs, hra⟩ := hx (by omega)
    have HRa := Lib.hid (fun W (hb : Below w.heap.size w W) => hra.below hb)
    have HS := Lib.hid (fun v W (h : RdN W v xs) (hc : CapOk v) => spec_copyblock v xs f t W h hc)
    have HI := Lib.hid (fun v W (h : RdN W v xs) (hc : CapOk v) => impl_copyblock v xs f t W h hc)
    obtain ⟨L, hL⟩ : ∃ L, copyC xs f t = L := ⟨_, rfl⟩
    obtain ⟨q, hq⟩ : ∃ q, copyOk xs.length f t = q := ⟨_, rfl⟩
    have hlen : L.length ≤ 1048576 := by rw [← hL]; exact Nat.le_trans (copyC_len xs f t) hs
    rw [hL, hq] at HS HI
    clear hL hq
    clear hra hx hxs h0
    go_enter Try.func10, Try.ntmps10
    go_wp2_with fail
    refine (szstore_fit A xs.length c 1048576 (by omega) (by omega) _).mono ?_
    rintro e W1 ⟨rfl, hb1⟩
    obtain ⟨kb1, hB1, hz1⟩ := boxes1 hb1
    have sz1 : w.heap.size ≤ W1.heap.size := hB1.size
    have BE_1 : Hid (Below w.heap.size w W1) := Lib.hid (hB1)
    have BX_2 : Hid (Blk W1 w.heap.size 45 #[.slice A xs.length c]) := Lib.hid kb1
    clear hb1 kb1 hB1
    have c_3 : W1.cell? ⟨w.heap.size, 0, none⟩ = some (.slice A xs.length c) := BX_2.out.cell 0
    go_wp2_with fail
    refine (tostore_any _ xs (by omega) _ (HRa.out _ BE_1.out)).mono ?_
    rintro e W2 ⟨tpxs, rfl, ho2, hb2⟩
    obtain ⟨A2, c2, rfl⟩ := own_form ho2
    have sz2 : W1.heap.size ≤ W2.heap.size := hb2.size
    have BE_4 : Hid (Below w.heap.size w W2) := Lib.hid (BE_1.out.trans (hb2.mono BE_1.out.size))
    have BX_5 := Lib.hid (BX_2.out.below hb2 BX_2.out.lt)
    have hp2 := ho2.mono (show W1.heap.size ≤ _ by exact Nat.le_refl _)
    have LO_7 := Lib.hid (own_lt hp2)
    have HI_8 := Lib.hid (fun k hk => (World.ownsRow.lt hp2 k hk).2)
    have OW_6 := Lib.hid hp2
    clear c_3 BE_1 BX_2 ho2 hp2 hb2
    go_wp2_with fail
    refine (HS.out _ _ (rd_own OW_6.out (by first | omega | (simp [marksN_len, marksB_len]; omega))) (own_cap OW_6.out)).mono ?_
    rintro e W3 ⟨u0, rfl, ho3, hb3⟩
    obtain ⟨A3, c3, rfl⟩ := own_form ho3
    have sz3 : W2.heap.size ≤ W3.heap.size := hb3.size
    have BE_9 : Hid (Below w.heap.size w W3) := Lib.hid (BE_4.out.trans (hb3.mono BE_4.out.size))
    have OW_10 := Lib.hid (own_below OW_6.out hb3 (Nat.le_refl _))
    have BX_11 := Lib.hid (BX_5.out.below hb3 BX_5.out.lt)
    have hp3 := ho3.mono (show W2.heap.size ≤ _ by exact Nat.le_refl _)
    have LO_13 := Lib.hid (own_lt hp3)
    have HI_14 := Lib.hid (fun k hk => (World.ownsRow.lt hp3 k hk).2)
    have OW_12 := Lib.hid hp3
    clear BE_4 OW_6 BX_5 ho3 hp3 hb3
    clear OW_10 LO_7 HI_8
    have c_15 : W3.cell? ⟨w.heap.size, 0, none⟩ = some (.slice A xs.length c) := BX_11.out.cell 0
    have l_16 : w.heap.size < W3.heap.size := BX_11.out.lt
    go_wp2_with fail
    refine (tostore_any _ xs (by omega) _ (HRa.out _ (BE_9.out.alloc BE_9.out.size _))).mono ?_
    rintro e W4 ⟨xxsv, rfl, ho4, hb4⟩
    obtain ⟨A4, c4, rfl⟩ := own_form ho4
    obtain ⟨kb4, hB4, hz4⟩ := boxes1 hb4
    have sz4 : W3.heap.size ≤ W4.heap.size := hB4.size
    have BE_17 : Hid (Below w.heap.size w W4) := Lib.hid (BE_9.out.trans (hB4.mono BE_9.out.size))
    have OW_18 := Lib.hid (own_below OW_12.out hB4 (Nat.le_refl _))
    have BX_19 := Lib.hid (BX_11.out.below hB4 BX_11.out.lt)
    have BX_20 : Hid (Blk W4 W3.heap.size 26 #[.slice A3 L.length c3]) := Lib.hid kb4
    have hp4 := ho4.mono (show W3.heap.size ≤ _ by simp)
    have LO_22 := Lib.hid (own_lt hp4)
    have HI_23 := Lib.hid (fun k hk => (World.ownsRow.lt hp4 k hk).2)
    have OW_21 := Lib.hid hp4
    clear c_15 l_16 hb4 BE_9 OW_12 BX_11 kb4 ho4 hp4 hB4
    go_wp2_with fail
    refine (HI.out _ _ ((rd_own OW_21.out (by first | omega | (simp [marksN_len, marksB_len]; omega))).below (below_alloc _ _)) (own_cap OW_21.out)).mono ?_
    rintro e W5 ⟨u1, rfl, ho5, hb5⟩
    obtain ⟨A5, c5, rfl⟩ := own_form ho5
    obtain ⟨kb5, hB5, hz5⟩ := boxes1 hb5
    have sz5 : W4.heap.size ≤ W5.heap.size := hB5.size
    have BE_24 : Hid (Below w.heap.size w W5) := Lib.hid (BE_17.out.trans (hB5.mono BE_17.out.size))
    have OW_25 := Lib.hid (own_below OW_18.out hB5 (Nat.le_refl _))
    have OW_26 := Lib.hid (own_below OW_21.out hB5 (Nat.le_refl _))
    have BX_27 := Lib.hid (BX_19.out.below hB5 BX_19.out.lt)
    have BX_28 := Lib.hid (BX_20.out.below hB5 BX_20.out.lt)
    have BX_29 : Hid (Blk W5 W4.heap.size 26 #[.slice A4 xs.length c4]) := Lib.hid kb5
    have hp5 := ho5.mono (show W4.heap.size ≤ _ by simp)
    have LO_31 := Lib.hid (own_lt hp5)
    have HI_32 := Lib.hid (fun k hk => (World.ownsRow.lt hp5 k hk).2)
    have OW_30 := Lib.hid hp5
    clear hb5 BE_17 OW_18 OW_21 BX_19 BX_20 kb5 ho5 hp5 hB5
    have c_33 : W5.cell? ⟨W3.heap.size, 0, none⟩ = some (.slice A3 L.length c3) := BX_28.out.cell 0
    have l_34 : W3.heap.size < W5.heap.size := BX_28.out.lt
    go_wp2_with fail
    refine (eqstore_same (.slice A5 L.length c5) (.slice A3 L.length c3) L _ ((rd_own OW_30.out (by first | omega | (simp [marksN_len, marksB_len]; omega))).below (below_alloc _ _)) ((rd_own OW_25.out (by first | omega | (simp [marksN_len, marksB_len]; omega))).below (below_alloc _ _))).mono ?_
    rintro e W6 ⟨rfl, hb6⟩
    obtain ⟨kb6, hB6, hz6⟩ := boxes1 hb6
    have sz6 : W5.heap.size ≤ W6.heap.size := hB6.size
    have BE_35 : Hid (Below w.heap.size w W6) := Lib.hid (BE_24.out.trans (hB6.mono BE_24.out.size))
    have OW_36 := Lib.hid (own_below OW_25.out hB6 (Nat.le_refl _))
    have OW_37 := Lib.hid (own_below OW_26.out hB6 (Nat.le_refl _))
    have OW_38 := Lib.hid (own_below OW_30.out hB6 (Nat.le_refl _))
    have BX_39 := Lib.hid (BX_27.out.below hB6 BX_27.out.lt)
    have BX_40 := Lib.hid (BX_28.out.below hB6 BX_28.out.lt)
    have BX_41 := Lib.hid (BX_29.out.below hB6 BX_29.out.lt)
    have BX_42 : Hid (Blk W6 W5.heap.size 26 #[.slice A5 L.length c5]) := Lib.hid kb6
    clear c_33 l_34 hb6 BE_24 OW_25 OW_26 OW_30 BX_27 BX_28 BX_29 kb6 hB6
    have c_43 : W6.cell? ⟨w.heap.size, 0, none⟩ = some (.slice A xs.length c) := BX_39.out.cell 0
    have c_44 : W6.cell? ⟨W4.heap.size, 0, none⟩ = some (.slice A4 xs.length c4) := BX_41.out.cell 0
    go_wp2_with fail
    have HS7 := Lib.hid (BE_35.out.drew)
    go_region_held3 (fun w' => w'.cell? ⟨W4.heap.size, 0, none⟩ = some (.slice A4 xs.length c4) ∧ w'.cell? ⟨w.heap.size, 0, none⟩ = some (.slice A xs.length c)) (first | exact ⟨BX_41.out.cell 0, BX_39.out.cell 0⟩ | go_keep | exact ⟨(Blk.below BX_41.out.drew hb7_1 BX_41.out.lt).cell 0, (Blk.below BX_39.out.drew hb7_1 BX_39.out.lt).cell 0⟩ | exact ⟨(Blk.below BX_41.out.drew (hb7_1.trans (hb7_2.mono hb7_1.size)) BX_41.out.lt).cell 0, (Blk.below BX_39.out.drew (hb7_1.trans (hb7_2.mono hb7_1.size)) BX_39.out.lt).cell 0⟩) (first | (go_at_call 32; refine (tostore_any _ xs (by omega) _ (HRa.out _ HS7.out)).mono ?_; rintro e V7 ⟨tc7, rfl, hot7, hb7_1⟩) | (go_at_call 34; refine (eqstore_same _ _ xs _ (RdN.below (RdN.drew (rd_own OW_37.out (by first | omega | (simp [marksN_len, marksB_len]; omega)))) hb7_1) (rd_own hot7 (by omega))).mono ?_; rintro e W7 ⟨rfl, hb7_2⟩))
    have hB7 : Below W6.heap.size W6 W7 := (Below.refl _ _).drew.trans (hb7_1.trans (hb7_2.mono hb7_1.size))
    have sz7 : W6.heap.size ≤ W7.heap.size := hB7.size
    have BE_45 : Hid (Below w.heap.size w W7) := Lib.hid (BE_35.out.trans (hB7.mono BE_35.out.size))
    have OW_46 := Lib.hid (own_below OW_36.out hB7 (Nat.le_refl _))
    have OW_47 := Lib.hid (own_below OW_37.out hB7 (Nat.le_refl _))
    have OW_48 := Lib.hid (own_below OW_38.out hB7 (Nat.le_refl _))
    have BX_49 := Lib.hid (BX_39.out.below hB7 BX_39.out.lt)
    have BX_50 := Lib.hid (BX_40.out.below hB7 BX_40.out.lt)
    have BX_51 := Lib.hid (BX_41.out.below hB7 BX_41.out.lt)
    have BX_52 := Lib.hid (BX_42.out.below hB7 BX_42.out.lt)
    clear hb7_1 hb7_2 hot7 HS7 c_43 c_44 BE_35 OW_36 OW_37 OW_38 BX_39 BX_40 BX_41 BX_42 hB7
    have c_53 : W7.cell? ⟨W4.heap.size, 0, none⟩ = some (.slice A4 xs.length c4) := BX_51.out.cell 0
    go_wp2_with fail
    refine (markstore1 _ (.slice A4 xs.length c4) xs (by omega) _ OW_47.out).mono ?_
    rintro e W8 ⟨rfl, ho8, hb8⟩
    have sz8 : W7.heap.size ≤ W8.heap.size := hb8.size
    have BE_54 : Hid (Below w.heap.size w W8) := Lib.hid (BE_45.out.grown hb8 BE_45.out.size (fun k hk => Nat.le_trans (by first | exact Nat.le_refl _ | omega) (LO_22.out k hk)))
    have OW_55 := Lib.hid (OW_46.out.kept hb8 (own_apart HI_14.out LO_22.out (by omega)))
    have OW_56 := Lib.hid (OW_48.out.kept hb8 (own_apart2 LO_31.out HI_23.out (by omega)))
    have BX_57 := Lib.hid (BX_49.out.grown hb8 (box_ne BX_49.out OW_47.out (by decide)))
    have BX_58 := Lib.hid (BX_50.out.grown hb8 (box_ne BX_50.out OW_47.out (by decide)))
    have BX_59 := Lib.hid (BX_51.out.grown hb8 (box_ne BX_51.out OW_47.out (by decide)))
    have BX_60 := Lib.hid (BX_52.out.grown hb8 (box_ne BX_52.out OW_47.out (by decide)))
    have OW_61 := Lib.hid ho8
    clear c_53 BE_45 OW_46 OW_48 BX_49 BX_50 BX_51 BX_52 OW_47 ho8 hb8
    have hk0 : ¬ ((1 : Int) + (xs.length : Int) < 0) := by omega
    have c_62 : W8.cell? ⟨W5.heap.size, 0, none⟩ = some (.slice A5 L.length c5) := BX_60.out.cell 0
    have c_63 : W8.cell? ⟨W3.heap.size, 0, none⟩ = some (.slice A3 L.length c3) := BX_58.out.cell 0
    go_wp2_with fail
    refine (eqstore_same (.slice A5 L.length c5) (.slice A3 L.length c3) L _ (rd_own OW_56.out (by first | omega | (simp [marksN_len, marksB_len]; omega))) (rd_own OW_55.out (by first | omega | (simp [marksN_len, marksB_len]; omega)))).mono ?_
    rintro e W9 ⟨rfl, hb9⟩
    have sz9 : W8.heap.size ≤ W9.heap.size := hb9.size
    have BE_64 : Hid (Below w.heap.size w W9) := Lib.hid (BE_54.out.trans (hb9.mono BE_54.out.size))
    have OW_65 := Lib.hid (own_below OW_55.out hb9 (Nat.le_refl _))
    have OW_66 := Lib.hid (own_below OW_61.out hb9 (Nat.le_refl _))
    have OW_67 := Lib.hid (own_below OW_56.out hb9 (Nat.le_refl _))
    have BX_68 := Lib.hid (BX_57.out.below hb9 BX_57.out.lt)
    have BX_69 := Lib.hid (BX_58.out.below hb9 BX_58.out.lt)
    have BX_70 := Lib.hid (BX_59.out.below hb9 BX_59.out.lt)
    have BX_71 := Lib.hid (BX_60.out.below hb9 BX_60.out.lt)
    clear c_62 c_63 BE_54 OW_55 OW_61 OW_56 BX_57 BX_58 BX_59 BX_60 hb9
    clear hk0
    have c_72 : W9.cell? ⟨W5.heap.size, 0, none⟩ = some (.slice A5 L.length c5) := BX_71.out.cell 0
    go_wp2_with fail
    refine (markstore1 _ (.slice A5 L.length c5) L (by omega) _ OW_67.out).mono ?_
    rintro e W10 ⟨rfl, ho10, hb10⟩
    have sz10 : W9.heap.size ≤ W10.heap.size := hb10.size
    have BE_73 : Hid (Below w.heap.size w W10) := Lib.hid (BE_64.out.grown hb10 BE_64.out.size (fun k hk => Nat.le_trans (by first | exact Nat.le_refl _ | omega) (LO_31.out k hk)))
    have OW_74 := Lib.hid (OW_65.out.kept hb10 (own_apart HI_14.out LO_31.out (by omega)))
    have OW_75 := Lib.hid (OW_66.out.kept hb10 (own_apart HI_23.out LO_31.out (by omega)))
    have BX_76 := Lib.hid (BX_68.out.grown hb10 (box_ne BX_68.out OW_67.out (by decide)))
    have BX_77 := Lib.hid (BX_69.out.grown hb10 (box_ne BX_69.out OW_67.out (by decide)))
    have BX_78 := Lib.hid (BX_70.out.grown hb10 (box_ne BX_70.out OW_67.out (by decide)))
    have BX_79 := Lib.hid (BX_71.out.grown hb10 (box_ne BX_71.out OW_67.out (by decide)))
    have OW_80 := Lib.hid ho10
    clear c_72 BE_64 OW_65 OW_66 BX_68 BX_69 BX_70 BX_71 OW_67 ho10 hb10
    have c_81 : W10.cell? ⟨W5.heap.size, 0, none⟩ = some (.slice A5 L.length c5) := BX_79.out.cell 0
    go_wp2_with fail
    refine (heldstore1 (.slice A5 L.length c5) L.length (by omega) _ (rd_own OW_80.out (by first | omega | (simp [marksN_len, marksB_len]; omega)))).mono ?_
    rintro e W11 ⟨rfl, hb11⟩
    have sz11 : W10.heap.size ≤ W11.heap.size := hb11.size
    have BE_82 : Hid (Below w.heap.size w W11) := Lib.hid (BE_73.out.trans (hb11.mono BE_73.out.size))
    have OW_83 := Lib.hid (own_below OW_74.out hb11 (Nat.le_refl _))
    have OW_84 := Lib.hid (own_below OW_75.out hb11 (Nat.le_refl _))
    have OW_85 := Lib.hid (own_below OW_80.out hb11 (Nat.le_refl _))
    have BX_86 := Lib.hid (BX_76.out.below hb11 BX_76.out.lt)
    have BX_87 := Lib.hid (BX_77.out.below hb11 BX_77.out.lt)
    have BX_88 := Lib.hid (BX_78.out.below hb11 BX_78.out.lt)
    have BX_89 := Lib.hid (BX_79.out.below hb11 BX_79.out.lt)
    clear c_81 BE_73 OW_74 OW_75 OW_80 BX_76 BX_77 BX_78 BX_79 hb11
    have hk1 : ¬ ((1 : Int) + (L.length : Int) < 0) := by omega
    have c_90 : W11.cell? ⟨w.heap.size, 0, none⟩ = some (.slice A xs.length c) := BX_86.out.cell 0
    go_wp2_with fail
    refine (tostore_any _ xs (by omega) _ (HRa.out _ BE_82.out)).mono ?_
    rintro e W12 ⟨tqxs, rfl, ho12, hb12⟩
    obtain ⟨A12, c12, rfl⟩ := own_form ho12
    have sz12 : W11.heap.size ≤ W12.heap.size := hb12.size
    have BE_91 : Hid (Below w.heap.size w W12) := Lib.hid (BE_82.out.trans (hb12.mono BE_82.out.size))
    have OW_92 := Lib.hid (own_below OW_83.out hb12 (Nat.le_refl _))
    have OW_93 := Lib.hid (own_below OW_84.out hb12 (Nat.le_refl _))
    have OW_94 := Lib.hid (own_below OW_85.out hb12 (Nat.le_refl _))
    have BX_95 := Lib.hid (BX_86.out.below hb12 BX_86.out.lt)
    have BX_96 := Lib.hid (BX_87.out.below hb12 BX_87.out.lt)
    have BX_97 := Lib.hid (BX_88.out.below hb12 BX_88.out.lt)
    have BX_98 := Lib.hid (BX_89.out.below hb12 BX_89.out.lt)
    have hp12 := ho12.mono (show W11.heap.size ≤ _ by exact Nat.le_refl _)
    have LO_100 := Lib.hid (own_lt hp12)
    have HI_101 := Lib.hid (fun k hk => (World.ownsRow.lt hp12 k hk).2)
    have OW_99 := Lib.hid hp12
    clear c_90 BE_82 OW_83 OW_84 OW_85 BX_86 BX_87 BX_88 BX_89 ho12 hp12 hb12
    go_wp2_with fail
    refine (HI.out _ _ (rd_own OW_99.out (by first | omega | (simp [marksN_len, marksB_len]; omega))) (own_cap OW_99.out)).mono ?_
    rintro e W13 ⟨u2, rfl, ho13, hb13⟩
    obtain ⟨A13, c13, rfl⟩ := own_form ho13
    have sz13 : W12.heap.size ≤ W13.heap.size := hb13.size
    have BE_102 : Hid (Below w.heap.size w W13) := Lib.hid (BE_91.out.trans (hb13.mono BE_91.out.size))
    have OW_103 := Lib.hid (own_below OW_92.out hb13 (Nat.le_refl _))
    have OW_104 := Lib.hid (own_below OW_93.out hb13 (Nat.le_refl _))
    have OW_105 := Lib.hid (own_below OW_94.out hb13 (Nat.le_refl _))
    have OW_106 := Lib.hid (own_below OW_99.out hb13 (Nat.le_refl _))
    have BX_107 := Lib.hid (BX_95.out.below hb13 BX_95.out.lt)
    have BX_108 := Lib.hid (BX_96.out.below hb13 BX_96.out.lt)
    have BX_109 := Lib.hid (BX_97.out.below hb13 BX_97.out.lt)
    have BX_110 := Lib.hid (BX_98.out.below hb13 BX_98.out.lt)
    have hp13 := ho13.mono (show W12.heap.size ≤ _ by exact Nat.le_refl _)
    have LO_112 := Lib.hid (own_lt hp13)
    have HI_113 := Lib.hid (fun k hk => (World.ownsRow.lt hp13 k hk).2)
    have OW_111 := Lib.hid hp13
    clear BE_91 OW_92 OW_93 OW_94 OW_99 BX_95 BX_96 BX_97 BX_98 ho13 hp13 hb13
    have c_114 : W13.cell? ⟨W3.heap.size, 0, none⟩ = some (.slice A3 L.length c3) := BX_108.out.cell 0
    have l_115 : W3.heap.size < W13.heap.size := BX_108.out.lt
    go_wp2_with fail
    refine (eqstore_same (.slice A13 L.length c13) (.slice A3 L.length c3) L _ ((rd_own OW_111.out (by first | omega | (simp [marksN_len, marksB_len]; omega))).below (below_alloc _ _)) ((rd_own OW_103.out (by first | omega | (simp [marksN_len, marksB_len]; omega))).below (below_alloc _ _))).mono ?_
    rintro e W14 ⟨rfl, hb14⟩
    obtain ⟨kb14, hB14, hz14⟩ := boxes1 hb14
    have sz14 : W13.heap.size ≤ W14.heap.size := hB14.size
    have BE_116 : Hid (Below w.heap.size w W14) := Lib.hid (BE_102.out.trans (hB14.mono BE_102.out.size))
    have OW_117 := Lib.hid (own_below OW_103.out hB14 (Nat.le_refl _))
    have OW_118 := Lib.hid (own_below OW_104.out hB14 (Nat.le_refl _))
    have OW_119 := Lib.hid (own_below OW_105.out hB14 (Nat.le_refl _))
    have OW_120 := Lib.hid (own_below OW_106.out hB14 (Nat.le_refl _))
    have OW_121 := Lib.hid (own_below OW_111.out hB14 (Nat.le_refl _))
    have BX_122 := Lib.hid (BX_107.out.below hB14 BX_107.out.lt)
    have BX_123 := Lib.hid (BX_108.out.below hB14 BX_108.out.lt)
    have BX_124 := Lib.hid (BX_109.out.below hB14 BX_109.out.lt)
    have BX_125 := Lib.hid (BX_110.out.below hB14 BX_110.out.lt)
    have BX_126 : Hid (Blk W14 W13.heap.size 26 #[.slice A13 L.length c13]) := Lib.hid kb14
    clear c_114 l_115 hb14 BE_102 OW_103 OW_104 OW_105 OW_106 OW_111 BX_107 BX_108 BX_109 BX_110 kb14 hB14
    have c_127 : W14.cell? ⟨W5.heap.size, 0, none⟩ = some (.slice A5 L.length c5) := BX_125.out.cell 0
    go_wp2_with fail
    refine (heldstore1 (.slice A5 L.length c5) L.length (by omega) _ (rd_own OW_119.out (by first | omega | (simp [marksN_len, marksB_len]; omega)))).mono ?_
    rintro e W15 ⟨rfl, hb15⟩
    have sz15 : W14.heap.size ≤ W15.heap.size := hb15.size
    have BE_128 : Hid (Below w.heap.size w W15) := Lib.hid (BE_116.out.trans (hb15.mono BE_116.out.size))
    have OW_129 := Lib.hid (own_below OW_117.out hb15 (Nat.le_refl _))
    have OW_130 := Lib.hid (own_below OW_118.out hb15 (Nat.le_refl _))
    have OW_131 := Lib.hid (own_below OW_119.out hb15 (Nat.le_refl _))
    have OW_132 := Lib.hid (own_below OW_120.out hb15 (Nat.le_refl _))
    have OW_133 := Lib.hid (own_below OW_121.out hb15 (Nat.le_refl _))
    have BX_134 := Lib.hid (BX_122.out.below hb15 BX_122.out.lt)
    have BX_135 := Lib.hid (BX_123.out.below hb15 BX_123.out.lt)
    have BX_136 := Lib.hid (BX_124.out.below hb15 BX_124.out.lt)
    have BX_137 := Lib.hid (BX_125.out.below hb15 BX_125.out.lt)
    have BX_138 := Lib.hid (BX_126.out.below hb15 BX_126.out.lt)
    clear c_127 BE_116 OW_117 OW_118 OW_119 OW_120 OW_121 BX_122 BX_123 BX_124 BX_125 BX_126 hb15
    go_wp2_with fail
    go_ret
    exact ⟨rfl, BE_128.out⟩
  · have hs2 : (1048576 : Int) < (len : Int) := by omega
    clear hs hx
    go_enter Try.func10, Try.ntmps10
    go_wp2_with fail
    refine (szstore_no A len c 1048576 (by omega) hs2 h0 _).mono ?_
    rintro e w1 ⟨rfl, hb⟩
    obtain ⟨-, hB, -⟩ := boxes1 hb
    have HB := Lib.hid hB
    clear hb hB
    go_wp2_with fail
    go_ret
    exact ⟨rfl, HB.out⟩

end Go.Proofs.Ytcddkcejjajlhaa
