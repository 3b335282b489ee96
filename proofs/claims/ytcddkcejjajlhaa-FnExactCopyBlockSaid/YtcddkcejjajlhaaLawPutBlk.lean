/-
  laws.FnExactPutBlock answers true at every store, block and cells.
-/
import Derived.Test.YtcddkcejjajlhaaExKit
import Derived.Test.YtcddkcejjajlhaaPutSpec
namespace Go.Proofs.Ytcddkcejjajlhaa
open Go.RowKit Go

attribute [local go_sem ↓] Go.wp_at_zero Go.wp_at_succ
theorem putC_len (l : List Nat) (b : Int) (cells : List Nat) : (putC l b cells).length ≤ l.length := by
  unfold putC
  split
  · rename_i h
    unfold putOk at h
    obtain ⟨h1, h2⟩ := Bool.and_eq_true_iff.1 h
    obtain ⟨k, rfl, h3, h4, h5⟩ := hasB_some h1
    exact Nat.le_of_eq (putL_len h5 (of_decide_eq_true h2))
  · simp

set_option maxRecDepth 100000 in
set_option maxHeartbeats 8000000 in
theorem law_FnExactPutBlock (b : Int) (w : World) (A : Option Addr) (len c : Nat) (h0 : len ≤ 9223372036854775807) (hx : len ≤ 4611686018427387904 → ∃ xs : List Nat, xs.length = len ∧ (∀ x ∈ xs, x < 4294967296) ∧ RdN w (.slice A len c) xs) (B : Option Addr) (len2 d : Nat) (h0y : len2 ≤ 9223372036854775807) (hxy : len2 ≤ 4611686018427387904 → ∃ xs : List Nat, xs.length = len2 ∧ (∀ x ∈ xs, x < 4294967296) ∧ RdN w (.slice B len2 d) xs) :
    Calls Try.prog 9 #[stA (.slice A len c), .int .i64 b, .slice B len2 d] w fun e w' => e = .returned (.bool true) ∧ Below w.heap.size w w' := by
  by_cases hsy : len2 ≤ 1048576
  · obtain ⟨ys, rfl, hys, hry⟩ := hxy (by omega)
    by_cases hs : len ≤ 1048576
    · obtain ⟨xs, rfl, hxs, hra⟩ := hx (by omega)
      have HRa := Lib.hid (fun W (hb : Below w.heap.size w W) => hra.below hb)
      have HRys := Lib.hid (fun W (hb : Below w.heap.size w W) => hry.below hb)
      have hs3 : ¬ (1048576 : Int) < (ys.length : Int) := by omega
      have HS := Lib.hid (fun v u W (h : RdN W v xs) (hu : RdN W u ys) => spec_putblock v u xs ys b W h hu)
      have HI := Lib.hid (fun v u W (h : RdN W v xs) (hu : RdN W u ys) => impl_putblock v u xs ys b W h hu)
      obtain ⟨L, hL⟩ : ∃ L, putC xs b ys = L := ⟨_, rfl⟩
      obtain ⟨q, hq⟩ : ∃ q, putOk xs.length b ys.length = q := ⟨_, rfl⟩
      have hlen : L.length ≤ 1048576 := by rw [← hL]; exact Nat.le_trans (putC_len xs b ys) hs
      rw [hL, hq] at HS HI
      clear hL hq hra hry hx hxy hxs hys h0 h0y
      go_enter Try.func9, Try.ntmps9
      go_wp2_with fail
      refine (szstore_fit A xs.length c 1048576 (by omega) (by omega) _).mono ?_
      rintro e W1 ⟨rfl, hb1⟩
      obtain ⟨kb1, hB1, hz1⟩ := boxes1 hb1
      have sz1 : w.heap.size ≤ W1.heap.size := hB1.size
      have BE_1 : Hid (Below w.heap.size w W1) := Lib.hid (hB1)
      have BX_2 : Hid (Blk W1 w.heap.size 45 #[.slice A xs.length c]) := Lib.hid kb1
      clear hb1 kb1 hB1
      have c_3 : W1.cell? ⟨w.heap.size, 0, none⟩ = some (.slice A xs.length c) := BX_2.out.cell 0
      go_wp2_with fail
      refine (tostore_any _ xs (by omega) _ (HRa.out _ BE_1.out)).mono ?_
      rintro e W2 ⟨tpxs, rfl, ho2, hb2⟩
      obtain ⟨A2, c2, rfl⟩ := own_form ho2
      have sz2 : W1.heap.size ≤ W2.heap.size := hb2.size
      have BE_4 : Hid (Below w.heap.size w W2) := Lib.hid (BE_1.out.trans (hb2.mono BE_1.out.size))
      have BX_5 := Lib.hid (BX_2.out.below hb2 BX_2.out.lt)
      have hp2 := ho2.mono (show W1.heap.size ≤ _ by exact Nat.le_refl _)
      have LO_7 := Lib.hid (own_lt hp2)
      have HI_8 := Lib.hid (fun k hk => (World.ownsRow.lt hp2 k hk).2)
      have OW_6 := Lib.hid hp2
      clear c_3 BE_1 BX_2 ho2 hp2 hb2
      go_wp2_with fail
      refine (tou_any _ ys (by omega) _ (HRys.out _ BE_4.out)).mono ?_
      rintro e W3 ⟨tpys, rfl, ho3, hb3⟩
      obtain ⟨A3, c3, rfl⟩ := own_form ho3
      have sz3 : W2.heap.size ≤ W3.heap.size := hb3.size
      have BE_9 : Hid (Below w.heap.size w W3) := Lib.hid (BE_4.out.trans (hb3.mono BE_4.out.size))
      have OW_10 := Lib.hid (own_below OW_6.out hb3 (Nat.le_refl _))
      have BX_11 := Lib.hid (BX_5.out.below hb3 BX_5.out.lt)
      have hp3 := ho3.mono (show W2.heap.size ≤ _ by exact Nat.le_refl _)
      have LO_13 := Lib.hid (own_lt hp3)
      have HI_14 := Lib.hid (fun k hk => (World.ownsRow.lt hp3 k hk).2)
      have OW_12 := Lib.hid hp3
      clear BE_4 OW_6 BX_5 ho3 hp3 hb3
      go_wp2_with fail
      refine (HS.out _ _ _ (rd_own OW_10.out (by first | omega | (simp [marksN_len, marksB_len]; omega))) (rd_own OW_12.out (by first | omega | (simp [marksN_len, marksB_len]; omega)))).mono ?_
      rintro e W4 ⟨u0, rfl, ho4, hb4⟩
      obtain ⟨A4, c4, rfl⟩ := own_form ho4
      have sz4 : W3.heap.size ≤ W4.heap.size := hb4.size
      have BE_15 : Hid (Below w.heap.size w W4) := Lib.hid (BE_9.out.trans (hb4.mono BE_9.out.size))
      have OW_16 := Lib.hid (own_below OW_10.out hb4 (Nat.le_refl _))
      have OW_17 := Lib.hid (own_below OW_12.out hb4 (Nat.le_refl _))
      have BX_18 := Lib.hid (BX_11.out.below hb4 BX_11.out.lt)
      have hp4 := ho4.mono (show W3.heap.size ≤ _ by exact Nat.le_refl _)
      have LO_20 := Lib.hid (own_lt hp4)
      have HI_21 := Lib.hid (fun k hk => (World.ownsRow.lt hp4 k hk).2)
      have OW_19 := Lib.hid hp4
      clear BE_9 OW_10 OW_12 BX_11 ho4 hp4 hb4
      clear OW_16 LO_7 HI_8
      clear OW_17 LO_13 HI_14
      have c_22 : W4.cell? ⟨w.heap.size, 0, none⟩ = some (.slice A xs.length c) := BX_18.out.cell 0
      have l_23 : w.heap.size < W4.heap.size := BX_18.out.lt
      go_wp2_with fail
      refine (tostore_any _ xs (by omega) _ (HRa.out _ (BE_15.out.alloc BE_15.out.size _))).mono ?_
      rintro e W5 ⟨xxsv, rfl, ho5, hb5⟩
      obtain ⟨A5, c5, rfl⟩ := own_form ho5
      obtain ⟨kb5, hB5, hz5⟩ := boxes1 hb5
      have sz5 : W4.heap.size ≤ W5.heap.size := hB5.size
      have BE_24 : Hid (Below w.heap.size w W5) := Lib.hid (BE_15.out.trans (hB5.mono BE_15.out.size))
      have OW_25 := Lib.hid (own_below OW_19.out hB5 (Nat.le_refl _))
      have BX_26 := Lib.hid (BX_18.out.below hB5 BX_18.out.lt)
      have BX_27 : Hid (Blk W5 W4.heap.size 26 #[.slice A4 L.length c4]) := Lib.hid kb5
      have hp5 := ho5.mono (show W4.heap.size ≤ _ by simp)
      have LO_29 := Lib.hid (own_lt hp5)
      have HI_30 := Lib.hid (fun k hk => (World.ownsRow.lt hp5 k hk).2)
      have OW_28 := Lib.hid hp5
      clear c_22 l_23 hb5 BE_15 OW_19 BX_18 kb5 ho5 hp5 hB5
      go_wp2_with fail
      refine (tou_any _ ys (by omega) _ (HRys.out _ (BE_24.out.alloc BE_24.out.size _))).mono ?_
      rintro e W6 ⟨xysv, rfl, ho6, hb6⟩
      obtain ⟨A6, c6, rfl⟩ := own_form ho6
      obtain ⟨kb6, hB6, hz6⟩ := boxes1 hb6
      have sz6 : W5.heap.size ≤ W6.heap.size := hB6.size
      have BE_31 : Hid (Below w.heap.size w W6) := Lib.hid (BE_24.out.trans (hB6.mono BE_24.out.size))
      have OW_32 := Lib.hid (own_below OW_25.out hB6 (Nat.le_refl _))
      have OW_33 := Lib.hid (own_below OW_28.out hB6 (Nat.le_refl _))
      have BX_34 := Lib.hid (BX_26.out.below hB6 BX_26.out.lt)
      have BX_35 := Lib.hid (BX_27.out.below hB6 BX_27.out.lt)
      have BX_36 : Hid (Blk W6 W5.heap.size 26 #[.slice A5 xs.length c5]) := Lib.hid kb6
      have hp6 := ho6.mono (show W5.heap.size ≤ _ by simp)
      have LO_38 := Lib.hid (own_lt hp6)
      have HI_39 := Lib.hid (fun k hk => (World.ownsRow.lt hp6 k hk).2)
      have OW_37 := Lib.hid hp6
      clear hb6 BE_24 OW_25 OW_28 BX_26 BX_27 kb6 ho6 hp6 hB6
      have c_40 : W6.cell? ⟨W5.heap.size, 0, none⟩ = some (.slice A5 xs.length c5) := BX_36.out.cell 0
      go_wp2_with fail
      refine (HI.out _ _ _ (rd_own OW_33.out (by first | omega | (simp [marksN_len, marksB_len]; omega))) (rd_own OW_37.out (by first | omega | (simp [marksN_len, marksB_len]; omega)))).mono ?_
      rintro e W7 ⟨u1, rfl, ho7, hb7⟩
      obtain ⟨A7, c7, rfl⟩ := own_form ho7
      have sz7 : W6.heap.size ≤ W7.heap.size := hb7.size
      have BE_41 : Hid (Below w.heap.size w W7) := Lib.hid (BE_31.out.trans (hb7.mono BE_31.out.size))
      have OW_42 := Lib.hid (own_below OW_32.out hb7 (Nat.le_refl _))
      have OW_43 := Lib.hid (own_below OW_33.out hb7 (Nat.le_refl _))
      have OW_44 := Lib.hid (own_below OW_37.out hb7 (Nat.le_refl _))
      have BX_45 := Lib.hid (BX_34.out.below hb7 BX_34.out.lt)
      have BX_46 := Lib.hid (BX_35.out.below hb7 BX_35.out.lt)
      have BX_47 := Lib.hid (BX_36.out.below hb7 BX_36.out.lt)
      have hp7 := ho7.mono (show W6.heap.size ≤ _ by exact Nat.le_refl _)
      have LO_49 := Lib.hid (own_lt hp7)
      have HI_50 := Lib.hid (fun k hk => (World.ownsRow.lt hp7 k hk).2)
      have OW_48 := Lib.hid hp7
      clear c_40 BE_31 OW_32 OW_33 OW_37 BX_34 BX_35 BX_36 ho7 hp7 hb7
      have c_51 : W7.cell? ⟨W4.heap.size, 0, none⟩ = some (.slice A4 L.length c4) := BX_46.out.cell 0
      have l_52 : W4.heap.size < W7.heap.size := BX_46.out.lt
      go_wp2_with fail
      refine (eqstore_same (.slice A7 L.length c7) (.slice A4 L.length c4) L _ ((rd_own OW_48.out (by first | omega | (simp [marksN_len, marksB_len]; omega))).below (below_alloc _ _)) ((rd_own OW_42.out (by first | omega | (simp [marksN_len, marksB_len]; omega))).below (below_alloc _ _))).mono ?_
      rintro e W8 ⟨rfl, hb8⟩
      obtain ⟨kb8, hB8, hz8⟩ := boxes1 hb8
      have sz8 : W7.heap.size ≤ W8.heap.size := hB8.size
      have BE_53 : Hid (Below w.heap.size w W8) := Lib.hid (BE_41.out.trans (hB8.mono BE_41.out.size))
      have OW_54 := Lib.hid (own_below OW_42.out hB8 (Nat.le_refl _))
      have OW_55 := Lib.hid (own_below OW_43.out hB8 (Nat.le_refl _))
      have OW_56 := Lib.hid (own_below OW_44.out hB8 (Nat.le_refl _))
      have OW_57 := Lib.hid (own_below OW_48.out hB8 (Nat.le_refl _))
      have BX_58 := Lib.hid (BX_45.out.below hB8 BX_45.out.lt)
      have BX_59 := Lib.hid (BX_46.out.below hB8 BX_46.out.lt)
      have BX_60 := Lib.hid (BX_47.out.below hB8 BX_47.out.lt)
      have BX_61 : Hid (Blk W8 W7.heap.size 26 #[.slice A7 L.length c7]) := Lib.hid kb8
      clear c_51 l_52 hb8 BE_41 OW_42 OW_43 OW_44 OW_48 BX_45 BX_46 BX_47 kb8 hB8
      have c_62 : W8.cell? ⟨w.heap.size, 0, none⟩ = some (.slice A xs.length c) := BX_58.out.cell 0
      have c_63 : W8.cell? ⟨W5.heap.size, 0, none⟩ = some (.slice A5 xs.length c5) := BX_60.out.cell 0
      go_wp2_with fail
      have HS9 := Lib.hid (BE_53.out.drew)
      go_region_held3 (fun w' => w'.cell? ⟨W5.heap.size, 0, none⟩ = some (.slice A5 xs.length c5) ∧ w'.cell? ⟨w.heap.size, 0, none⟩ = some (.slice A xs.length c)) (first | exact ⟨BX_60.out.cell 0, BX_58.out.cell 0⟩ | go_keep | exact ⟨(Blk.below BX_60.out.drew hb9_1 BX_60.out.lt).cell 0, (Blk.below BX_58.out.drew hb9_1 BX_58.out.lt).cell 0⟩ | exact ⟨(Blk.below BX_60.out.drew (hb9_1.trans (hb9_2.mono hb9_1.size)) BX_60.out.lt).cell 0, (Blk.below BX_58.out.drew (hb9_1.trans (hb9_2.mono hb9_1.size)) BX_58.out.lt).cell 0⟩) (first | (go_at_call 32; refine (tostore_any _ xs (by omega) _ (HRa.out _ HS9.out)).mono ?_; rintro e V9 ⟨tc9, rfl, hot9, hb9_1⟩) | (go_at_call 34; refine (eqstore_same _ _ xs _ (RdN.below (RdN.drew (rd_own OW_55.out (by first | omega | (simp [marksN_len, marksB_len]; omega)))) hb9_1) (rd_own hot9 (by omega))).mono ?_; rintro e W9 ⟨rfl, hb9_2⟩))
      have hB9 : Below W8.heap.size W8 W9 := (Below.refl _ _).drew.trans (hb9_1.trans (hb9_2.mono hb9_1.size))
      have sz9 : W8.heap.size ≤ W9.heap.size := hB9.size
      have BE_64 : Hid (Below w.heap.size w W9) := Lib.hid (BE_53.out.trans (hB9.mono BE_53.out.size))
      have OW_65 := Lib.hid (own_below OW_54.out hB9 (Nat.le_refl _))
      have OW_66 := Lib.hid (own_below OW_55.out hB9 (Nat.le_refl _))
      have OW_67 := Lib.hid (own_below OW_56.out hB9 (Nat.le_refl _))
      have OW_68 := Lib.hid (own_below OW_57.out hB9 (Nat.le_refl _))
      have BX_69 := Lib.hid (BX_58.out.below hB9 BX_58.out.lt)
      have BX_70 := Lib.hid (BX_59.out.below hB9 BX_59.out.lt)
      have BX_71 := Lib.hid (BX_60.out.below hB9 BX_60.out.lt)
      have BX_72 := Lib.hid (BX_61.out.below hB9 BX_61.out.lt)
      clear hb9_1 hb9_2 hot9 HS9 c_62 c_63 BE_53 OW_54 OW_55 OW_56 OW_57 BX_58 BX_59 BX_60 BX_61 hB9
      go_wp2_with fail
      refine (tou_any _ ys (by omega) _ (HRys.out _ BE_64.out)).mono ?_
      rintro e W10 ⟨tcys, rfl, ho10, hb10⟩
      obtain ⟨A10, c10, rfl⟩ := own_form ho10
      have sz10 : W9.heap.size ≤ W10.heap.size := hb10.size
      have BE_73 : Hid (Below w.heap.size w W10) := Lib.hid (BE_64.out.trans (hb10.mono BE_64.out.size))
      have OW_74 := Lib.hid (own_below OW_65.out hb10 (Nat.le_refl _))
      have OW_75 := Lib.hid (own_below OW_66.out hb10 (Nat.le_refl _))
      have OW_76 := Lib.hid (own_below OW_67.out hb10 (Nat.le_refl _))
      have OW_77 := Lib.hid (own_below OW_68.out hb10 (Nat.le_refl _))
      have BX_78 := Lib.hid (BX_69.out.below hb10 BX_69.out.lt)
      have BX_79 := Lib.hid (BX_70.out.below hb10 BX_70.out.lt)
      have BX_80 := Lib.hid (BX_71.out.below hb10 BX_71.out.lt)
      have BX_81 := Lib.hid (BX_72.out.below hb10 BX_72.out.lt)
      have hp10 := ho10.mono (show W9.heap.size ≤ _ by exact Nat.le_refl _)
      have LO_83 := Lib.hid (own_lt hp10)
      have HI_84 := Lib.hid (fun k hk => (World.ownsRow.lt hp10 k hk).2)
      have OW_82 := Lib.hid hp10
      clear BE_64 OW_65 OW_66 OW_67 OW_68 BX_69 BX_70 BX_71 BX_72 ho10 hp10 hb10
      go_wp2_with fail
      refine (eqn_same _ _ ys _ (rd_own OW_76.out (by first | omega | (simp [marksN_len, marksB_len]; omega))) (rd_own OW_82.out (by first | omega | (simp [marksN_len, marksB_len]; omega)))).mono ?_
      rintro e W11 ⟨rfl, hb11⟩
      have sz11 : W10.heap.size ≤ W11.heap.size := hb11.size
      have BE_85 : Hid (Below w.heap.size w W11) := Lib.hid (BE_73.out.trans (hb11.mono BE_73.out.size))
      have OW_86 := Lib.hid (own_below OW_74.out hb11 (Nat.le_refl _))
      have OW_87 := Lib.hid (own_below OW_75.out hb11 (Nat.le_refl _))
      have OW_88 := Lib.hid (own_below OW_76.out hb11 (Nat.le_refl _))
      have OW_89 := Lib.hid (own_below OW_77.out hb11 (Nat.le_refl _))
      have OW_90 := Lib.hid (own_below OW_82.out hb11 (Nat.le_refl _))
      have BX_91 := Lib.hid (BX_78.out.below hb11 BX_78.out.lt)
      have BX_92 := Lib.hid (BX_79.out.below hb11 BX_79.out.lt)
      have BX_93 := Lib.hid (BX_80.out.below hb11 BX_80.out.lt)
      have BX_94 := Lib.hid (BX_81.out.below hb11 BX_81.out.lt)
      clear BE_73 OW_74 OW_75 OW_76 OW_77 OW_82 BX_78 BX_79 BX_80 BX_81 hb11
      clear OW_90 LO_83 HI_84
      have c_95 : W11.cell? ⟨W5.heap.size, 0, none⟩ = some (.slice A5 xs.length c5) := BX_93.out.cell 0
      go_wp2_with fail
      refine (markstore1 _ (.slice A5 xs.length c5) xs (by omega) _ OW_87.out).mono ?_
      rintro e W12 ⟨rfl, ho12, hb12⟩
      have sz12 : W11.heap.size ≤ W12.heap.size := hb12.size
      have BE_96 : Hid (Below w.heap.size w W12) := Lib.hid (BE_85.out.grown hb12 BE_85.out.size (fun k hk => Nat.le_trans (by first | exact Nat.le_refl _ | omega) (LO_29.out k hk)))
      have OW_97 := Lib.hid (OW_86.out.kept hb12 (own_apart HI_21.out LO_29.out (by omega)))
      have OW_98 := Lib.hid (OW_88.out.kept hb12 (own_apart2 LO_38.out HI_30.out (by omega)))
      have OW_99 := Lib.hid (OW_89.out.kept hb12 (own_apart2 LO_49.out HI_30.out (by omega)))
      have BX_100 := Lib.hid (BX_91.out.grown hb12 (box_ne BX_91.out OW_87.out (by decide)))
      have BX_101 := Lib.hid (BX_92.out.grown hb12 (box_ne BX_92.out OW_87.out (by decide)))
      have BX_102 := Lib.hid (BX_93.out.grown hb12 (box_ne BX_93.out OW_87.out (by decide)))
      have BX_103 := Lib.hid (BX_94.out.grown hb12 (box_ne BX_94.out OW_87.out (by decide)))
      have OW_104 := Lib.hid ho12
      clear c_95 BE_85 OW_86 OW_88 OW_89 BX_91 BX_92 BX_93 BX_94 OW_87 ho12 hb12
      go_wp2_with fail
      refine (markn2 _ (.slice A6 ys.length c6) ys xs.length (by omega) (by omega) _ OW_98.out).mono ?_
      rintro e W13 ⟨rfl, ho13, hb13⟩
      have sz13 : W12.heap.size ≤ W13.heap.size := hb13.size
      have BE_105 : Hid (Below w.heap.size w W13) := Lib.hid (BE_96.out.grown hb13 BE_96.out.size (fun k hk => Nat.le_trans (by first | exact Nat.le_refl _ | omega) (LO_38.out k hk)))
      have OW_106 := Lib.hid (OW_97.out.kept hb13 (own_apart HI_21.out LO_38.out (by omega)))
      have OW_107 := Lib.hid (OW_104.out.kept hb13 (own_apart HI_30.out LO_38.out (by omega)))
      have OW_108 := Lib.hid (OW_99.out.kept hb13 (own_apart2 LO_49.out HI_39.out (by omega)))
      have BX_109 := Lib.hid (BX_100.out.grown hb13 (box_ne BX_100.out OW_98.out (by decide)))
      have BX_110 := Lib.hid (BX_101.out.grown hb13 (box_ne BX_101.out OW_98.out (by decide)))
      have BX_111 := Lib.hid (BX_102.out.grown hb13 (box_ne BX_102.out OW_98.out (by decide)))
      have BX_112 := Lib.hid (BX_103.out.grown hb13 (box_ne BX_103.out OW_98.out (by decide)))
      have OW_113 := Lib.hid ho13
      clear BE_96 OW_97 OW_104 OW_99 BX_100 BX_101 BX_102 BX_103 OW_98 ho13 hb13
      have hk0 : ¬ ((1 : Int) + (xs.length : Int) + (ys.length : Int) < 0) := by omega
      have c_114 : W13.cell? ⟨W7.heap.size, 0, none⟩ = some (.slice A7 L.length c7) := BX_112.out.cell 0
      have c_115 : W13.cell? ⟨W4.heap.size, 0, none⟩ = some (.slice A4 L.length c4) := BX_110.out.cell 0
      go_wp2_with fail
      refine (eqstore_same (.slice A7 L.length c7) (.slice A4 L.length c4) L _ (rd_own OW_108.out (by first | omega | (simp [marksN_len, marksB_len]; omega))) (rd_own OW_106.out (by first | omega | (simp [marksN_len, marksB_len]; omega)))).mono ?_
      rintro e W14 ⟨rfl, hb14⟩
      have sz14 : W13.heap.size ≤ W14.heap.size := hb14.size
      have BE_116 : Hid (Below w.heap.size w W14) := Lib.hid (BE_105.out.trans (hb14.mono BE_105.out.size))
      have OW_117 := Lib.hid (own_below OW_106.out hb14 (Nat.le_refl _))
      have OW_118 := Lib.hid (own_below OW_107.out hb14 (Nat.le_refl _))
      have OW_119 := Lib.hid (own_below OW_113.out hb14 (Nat.le_refl _))
      have OW_120 := Lib.hid (own_below OW_108.out hb14 (Nat.le_refl _))
      have BX_121 := Lib.hid (BX_109.out.below hb14 BX_109.out.lt)
      have BX_122 := Lib.hid (BX_110.out.below hb14 BX_110.out.lt)
      have BX_123 := Lib.hid (BX_111.out.below hb14 BX_111.out.lt)
      have BX_124 := Lib.hid (BX_112.out.below hb14 BX_112.out.lt)
      clear c_114 c_115 BE_105 OW_106 OW_107 OW_113 OW_108 BX_109 BX_110 BX_111 BX_112 hb14
      clear hk0
      have c_125 : W14.cell? ⟨W7.heap.size, 0, none⟩ = some (.slice A7 L.length c7) := BX_124.out.cell 0
      go_wp2_with fail
      refine (markstore1 _ (.slice A7 L.length c7) L (by omega) _ OW_120.out).mono ?_
      rintro e W15 ⟨rfl, ho15, hb15⟩
      have sz15 : W14.heap.size ≤ W15.heap.size := hb15.size
      have BE_126 : Hid (Below w.heap.size w W15) := Lib.hid (BE_116.out.grown hb15 BE_116.out.size (fun k hk => Nat.le_trans (by first | exact Nat.le_refl _ | omega) (LO_49.out k hk)))
      have OW_127 := Lib.hid (OW_117.out.kept hb15 (own_apart HI_21.out LO_49.out (by omega)))
      have OW_128 := Lib.hid (OW_118.out.kept hb15 (own_apart HI_30.out LO_49.out (by omega)))
      have OW_129 := Lib.hid (OW_119.out.kept hb15 (own_apart HI_39.out LO_49.out (by omega)))
      have BX_130 := Lib.hid (BX_121.out.grown hb15 (box_ne BX_121.out OW_120.out (by decide)))
      have BX_131 := Lib.hid (BX_122.out.grown hb15 (box_ne BX_122.out OW_120.out (by decide)))
      have BX_132 := Lib.hid (BX_123.out.grown hb15 (box_ne BX_123.out OW_120.out (by decide)))
      have BX_133 := Lib.hid (BX_124.out.grown hb15 (box_ne BX_124.out OW_120.out (by decide)))
      have OW_134 := Lib.hid ho15
      clear c_125 BE_116 OW_117 OW_118 OW_119 BX_121 BX_122 BX_123 BX_124 OW_120 ho15 hb15
      have c_135 : W15.cell? ⟨W7.heap.size, 0, none⟩ = some (.slice A7 L.length c7) := BX_133.out.cell 0
      go_wp2_with fail
      refine (heldstore1 (.slice A7 L.length c7) L.length (by omega) _ (rd_own OW_134.out (by first | omega | (simp [marksN_len, marksB_len]; omega)))).mono ?_
      rintro e W16 ⟨rfl, hb16⟩
      have sz16 : W15.heap.size ≤ W16.heap.size := hb16.size
      have BE_136 : Hid (Below w.heap.size w W16) := Lib.hid (BE_126.out.trans (hb16.mono BE_126.out.size))
      have OW_137 := Lib.hid (own_below OW_127.out hb16 (Nat.le_refl _))
      have OW_138 := Lib.hid (own_below OW_128.out hb16 (Nat.le_refl _))
      have OW_139 := Lib.hid (own_below OW_129.out hb16 (Nat.le_refl _))
      have OW_140 := Lib.hid (own_below OW_134.out hb16 (Nat.le_refl _))
      have BX_141 := Lib.hid (BX_130.out.below hb16 BX_130.out.lt)
      have BX_142 := Lib.hid (BX_131.out.below hb16 BX_131.out.lt)
      have BX_143 := Lib.hid (BX_132.out.below hb16 BX_132.out.lt)
      have BX_144 := Lib.hid (BX_133.out.below hb16 BX_133.out.lt)
      clear c_135 BE_126 OW_127 OW_128 OW_129 OW_134 BX_130 BX_131 BX_132 BX_133 hb16
      have hk1 : ¬ ((1 : Int) + (L.length : Int) < 0) := by omega
      have c_145 : W16.cell? ⟨w.heap.size, 0, none⟩ = some (.slice A xs.length c) := BX_141.out.cell 0
      go_wp2_with fail
      refine (tostore_any _ xs (by omega) _ (HRa.out _ BE_136.out)).mono ?_
      rintro e W17 ⟨tqxs, rfl, ho17, hb17⟩
      obtain ⟨A17, c17, rfl⟩ := own_form ho17
      have sz17 : W16.heap.size ≤ W17.heap.size := hb17.size
      have BE_146 : Hid (Below w.heap.size w W17) := Lib.hid (BE_136.out.trans (hb17.mono BE_136.out.size))
      have OW_147 := Lib.hid (own_below OW_137.out hb17 (Nat.le_refl _))
      have OW_148 := Lib.hid (own_below OW_138.out hb17 (Nat.le_refl _))
      have OW_149 := Lib.hid (own_below OW_139.out hb17 (Nat.le_refl _))
      have OW_150 := Lib.hid (own_below OW_140.out hb17 (Nat.le_refl _))
      have BX_151 := Lib.hid (BX_141.out.below hb17 BX_141.out.lt)
      have BX_152 := Lib.hid (BX_142.out.below hb17 BX_142.out.lt)
      have BX_153 := Lib.hid (BX_143.out.below hb17 BX_143.out.lt)
      have BX_154 := Lib.hid (BX_144.out.below hb17 BX_144.out.lt)
      have hp17 := ho17.mono (show W16.heap.size ≤ _ by exact Nat.le_refl _)
      have LO_156 := Lib.hid (own_lt hp17)
      have HI_157 := Lib.hid (fun k hk => (World.ownsRow.lt hp17 k hk).2)
      have OW_155 := Lib.hid hp17
      clear c_145 BE_136 OW_137 OW_138 OW_139 OW_140 BX_141 BX_142 BX_143 BX_144 ho17 hp17 hb17
      go_wp2_with fail
      refine (tou_any _ ys (by omega) _ (HRys.out _ BE_146.out)).mono ?_
      rintro e W18 ⟨tqys, rfl, ho18, hb18⟩
      obtain ⟨A18, c18, rfl⟩ := own_form ho18
      have sz18 : W17.heap.size ≤ W18.heap.size := hb18.size
      have BE_158 : Hid (Below w.heap.size w W18) := Lib.hid (BE_146.out.trans (hb18.mono BE_146.out.size))
      have OW_159 := Lib.hid (own_below OW_147.out hb18 (Nat.le_refl _))
      have OW_160 := Lib.hid (own_below OW_148.out hb18 (Nat.le_refl _))
      have OW_161 := Lib.hid (own_below OW_149.out hb18 (Nat.le_refl _))
      have OW_162 := Lib.hid (own_below OW_150.out hb18 (Nat.le_refl _))
      have OW_163 := Lib.hid (own_below OW_155.out hb18 (Nat.le_refl _))
      have BX_164 := Lib.hid (BX_151.out.below hb18 BX_151.out.lt)
      have BX_165 := Lib.hid (BX_152.out.below hb18 BX_152.out.lt)
      have BX_166 := Lib.hid (BX_153.out.below hb18 BX_153.out.lt)
      have BX_167 := Lib.hid (BX_154.out.below hb18 BX_154.out.lt)
      have hp18 := ho18.mono (show W17.heap.size ≤ _ by exact Nat.le_refl _)
      have LO_169 := Lib.hid (own_lt hp18)
      have HI_170 := Lib.hid (fun k hk => (World.ownsRow.lt hp18 k hk).2)
      have OW_168 := Lib.hid hp18
      clear BE_146 OW_147 OW_148 OW_149 OW_150 OW_155 BX_151 BX_152 BX_153 BX_154 ho18 hp18 hb18
      go_wp2_with fail
      refine (HI.out _ _ _ (rd_own OW_163.out (by first | omega | (simp [marksN_len, marksB_len]; omega))) (rd_own OW_168.out (by first | omega | (simp [marksN_len, marksB_len]; omega)))).mono ?_
      rintro e W19 ⟨u2, rfl, ho19, hb19⟩
      obtain ⟨A19, c19, rfl⟩ := own_form ho19
      have sz19 : W18.heap.size ≤ W19.heap.size := hb19.size
      have BE_171 : Hid (Below w.heap.size w W19) := Lib.hid (BE_158.out.trans (hb19.mono BE_158.out.size))
      have OW_172 := Lib.hid (own_below OW_159.out hb19 (Nat.le_refl _))
      have OW_173 := Lib.hid (own_below OW_160.out hb19 (Nat.le_refl _))
      have OW_174 := Lib.hid (own_below OW_161.out hb19 (Nat.le_refl _))
      have OW_175 := Lib.hid (own_below OW_162.out hb19 (Nat.le_refl _))
      have OW_176 := Lib.hid (own_below OW_163.out hb19 (Nat.le_refl _))
      have OW_177 := Lib.hid (own_below OW_168.out hb19 (Nat.le_refl _))
      have BX_178 := Lib.hid (BX_164.out.below hb19 BX_164.out.lt)
      have BX_179 := Lib.hid (BX_165.out.below hb19 BX_165.out.lt)
      have BX_180 := Lib.hid (BX_166.out.below hb19 BX_166.out.lt)
      have BX_181 := Lib.hid (BX_167.out.below hb19 BX_167.out.lt)
      have hp19 := ho19.mono (show W18.heap.size ≤ _ by exact Nat.le_refl _)
      have LO_183 := Lib.hid (own_lt hp19)
      have HI_184 := Lib.hid (fun k hk => (World.ownsRow.lt hp19 k hk).2)
      have OW_182 := Lib.hid hp19
      clear BE_158 OW_159 OW_160 OW_161 OW_162 OW_163 OW_168 BX_164 BX_165 BX_166 BX_167 ho19 hp19 hb19
      have c_185 : W19.cell? ⟨W4.heap.size, 0, none⟩ = some (.slice A4 L.length c4) := BX_179.out.cell 0
      have l_186 : W4.heap.size < W19.heap.size := BX_179.out.lt
      go_wp2_with fail
      refine (eqstore_same (.slice A19 L.length c19) (.slice A4 L.length c4) L _ ((rd_own OW_182.out (by first | omega | (simp [marksN_len, marksB_len]; omega))).below (below_alloc _ _)) ((rd_own OW_172.out (by first | omega | (simp [marksN_len, marksB_len]; omega))).below (below_alloc _ _))).mono ?_
      rintro e W20 ⟨rfl, hb20⟩
      obtain ⟨kb20, hB20, hz20⟩ := boxes1 hb20
      have sz20 : W19.heap.size ≤ W20.heap.size := hB20.size
      have BE_187 : Hid (Below w.heap.size w W20) := Lib.hid (BE_171.out.trans (hB20.mono BE_171.out.size))
      have OW_188 := Lib.hid (own_below OW_172.out hB20 (Nat.le_refl _))
      have OW_189 := Lib.hid (own_below OW_173.out hB20 (Nat.le_refl _))
      have OW_190 := Lib.hid (own_below OW_174.out hB20 (Nat.le_refl _))
      have OW_191 := Lib.hid (own_below OW_175.out hB20 (Nat.le_refl _))
      have OW_192 := Lib.hid (own_below OW_176.out hB20 (Nat.le_refl _))
      have OW_193 := Lib.hid (own_below OW_177.out hB20 (Nat.le_refl _))
      have OW_194 := Lib.hid (own_below OW_182.out hB20 (Nat.le_refl _))
      have BX_195 := Lib.hid (BX_178.out.below hB20 BX_178.out.lt)
      have BX_196 := Lib.hid (BX_179.out.below hB20 BX_179.out.lt)
      have BX_197 := Lib.hid (BX_180.out.below hB20 BX_180.out.lt)
      have BX_198 := Lib.hid (BX_181.out.below hB20 BX_181.out.lt)
      have BX_199 : Hid (Blk W20 W19.heap.size 26 #[.slice A19 L.length c19]) := Lib.hid kb20
      clear c_185 l_186 hb20 BE_171 OW_172 OW_173 OW_174 OW_175 OW_176 OW_177 OW_182 BX_178 BX_179 BX_180 BX_181 kb20 hB20
      have c_200 : W20.cell? ⟨W7.heap.size, 0, none⟩ = some (.slice A7 L.length c7) := BX_198.out.cell 0
      go_wp2_with fail
      refine (heldstore1 (.slice A7 L.length c7) L.length (by omega) _ (rd_own OW_191.out (by first | omega | (simp [marksN_len, marksB_len]; omega)))).mono ?_
      rintro e W21 ⟨rfl, hb21⟩
      have sz21 : W20.heap.size ≤ W21.heap.size := hb21.size
      have BE_201 : Hid (Below w.heap.size w W21) := Lib.hid (BE_187.out.trans (hb21.mono BE_187.out.size))
      have OW_202 := Lib.hid (own_below OW_188.out hb21 (Nat.le_refl _))
      have OW_203 := Lib.hid (own_below OW_189.out hb21 (Nat.le_refl _))
      have OW_204 := Lib.hid (own_below OW_190.out hb21 (Nat.le_refl _))
      have OW_205 := Lib.hid (own_below OW_191.out hb21 (Nat.le_refl _))
      have OW_206 := Lib.hid (own_below OW_192.out hb21 (Nat.le_refl _))
      have OW_207 := Lib.hid (own_below OW_193.out hb21 (Nat.le_refl _))
      have OW_208 := Lib.hid (own_below OW_194.out hb21 (Nat.le_refl _))
      have BX_209 := Lib.hid (BX_195.out.below hb21 BX_195.out.lt)
      have BX_210 := Lib.hid (BX_196.out.below hb21 BX_196.out.lt)
      have BX_211 := Lib.hid (BX_197.out.below hb21 BX_197.out.lt)
      have BX_212 := Lib.hid (BX_198.out.below hb21 BX_198.out.lt)
      have BX_213 := Lib.hid (BX_199.out.below hb21 BX_199.out.lt)
      clear c_200 BE_187 OW_188 OW_189 OW_190 OW_191 OW_192 OW_193 OW_194 BX_195 BX_196 BX_197 BX_198 BX_199 hb21
      go_wp2_with fail
      go_ret
      exact ⟨rfl, BE_201.out⟩
    · have hs2 : (1048576 : Int) < (len : Int) := by omega
      have hs3 : ¬ (1048576 : Int) < (ys.length : Int) := by omega
      clear hs hx hry hys hxy
      go_enter Try.func9, Try.ntmps9
      go_wp2_with fail
      refine (szstore_no A len c 1048576 (by omega) hs2 h0 _).mono ?_
      rintro e w1 ⟨rfl, hb⟩
      obtain ⟨-, hB, -⟩ := boxes1 hb
      have HB := Lib.hid hB
      clear hb hB
      go_wp2_with fail
      go_ret
      exact ⟨rfl, HB.out⟩
  · have hs3 : (1048576 : Int) < (len2 : Int) := by omega
    clear hsy hx hxy
    go_enter Try.func9, Try.ntmps9
    go_wp2_with fail
    go_ret
    exact ⟨rfl, below_alloc _ _⟩

end Go.Proofs.Ytcddkcejjajlhaa
