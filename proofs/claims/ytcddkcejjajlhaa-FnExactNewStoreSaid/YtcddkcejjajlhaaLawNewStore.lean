/-
  laws.FnExactNewStore answers true at every number.
-/
import Derived.Test.YtcddkcejjajlhaaExKit
import Derived.Test.YtcddkcejjajlhaaBlockIn
namespace Go.Proofs.Ytcddkcejjajlhaa
open Go.RowKit Go

theorem newL_len (n : Int) : (newL n).length ≤ 768 := by
  unfold newL
  split
  · rw [List.length_replicate]; omega
  · simp

set_option maxRecDepth 100000 in
set_option maxHeartbeats 8000000 in
theorem law_FnExactNewStore (n : Int) (w : World) :
    Calls Try.prog 7 #[.int .i64 n] w fun e w' => e = .returned (.bool true) ∧ Below w.heap.size w w' := by
  obtain ⟨L, hL⟩ : ∃ L, newL n = L := ⟨_, rfl⟩
  have hlen : L.length ≤ 768 := by rw [← hL]; exact newL_len n
  have HS := Lib.hid (fun W => spec_newstore n W)
  have HI := Lib.hid (fun W => impl_newstore n W)
  rw [hL] at HS HI
  clear hL
  go_enter Try.func7, Try.ntmps7
  go_wp2_with fail
  refine (HS.out _).mono ?_
  rintro e W1 ⟨u0, rfl, ho1, hb1⟩
  obtain ⟨A1, c1, rfl⟩ := own_form ho1
  have sz1 : w.heap.size ≤ W1.heap.size := hb1.size
  have BE_1 : Hid (Below w.heap.size w W1) := Lib.hid (hb1)
  have hp1 := ho1.mono (show w.heap.size ≤ _ by exact Nat.le_refl _)
  have LO_3 := Lib.hid (own_lt hp1)
  have HI_4 := Lib.hid (fun k hk => (World.ownsRow.lt hp1 k hk).2)
  have OW_2 := Lib.hid hp1
  clear ho1 hp1 hb1
  go_wp2_with fail
  refine (HI.out _).mono ?_
  rintro e W2 ⟨u1, rfl, ho2, hb2⟩
  obtain ⟨A2, c2, rfl⟩ := own_form ho2
  obtain ⟨kb2, hB2, hz2⟩ := boxes1 hb2
  have sz2 : W1.heap.size ≤ W2.heap.size := hB2.size
  have BE_5 : Hid (Below w.heap.size w W2) := Lib.hid (BE_1.out.trans (hB2.mono BE_1.out.size))
  have OW_6 := Lib.hid (own_below OW_2.out hB2 (Nat.le_refl _))
  have BX_7 : Hid (Blk W2 W1.heap.size 26 #[.slice A1 L.length c1]) := Lib.hid kb2
  have hp2 := ho2.mono (show W1.heap.size ≤ _ by simp)
  have LO_9 := Lib.hid (own_lt hp2)
  have HI_10 := Lib.hid (fun k hk => (World.ownsRow.lt hp2 k hk).2)
  have OW_8 := Lib.hid hp2
  clear hb2 BE_1 OW_2 kb2 ho2 hp2 hB2
  have c_11 : W2.cell? ⟨W1.heap.size, 0, none⟩ = some (.slice A1 L.length c1) := BX_7.out.cell 0
  have l_12 : W1.heap.size < W2.heap.size := BX_7.out.lt
  go_wp2_with fail
  refine (eqstore_same (.slice A2 L.length c2) (.slice A1 L.length c1) L _ ((rd_own OW_8.out (by first | omega | (simp [marksN_len, marksB_len]; omega))).below (below_alloc _ _)) ((rd_own OW_6.out (by first | omega | (simp [marksN_len, marksB_len]; omega))).below (below_alloc _ _))).mono ?_
  rintro e W3 ⟨rfl, hb3⟩
  obtain ⟨kb3, hB3, hz3⟩ := boxes1 hb3
  have sz3 : W2.heap.size ≤ W3.heap.size := hB3.size
  have BE_13 : Hid (Below w.heap.size w W3) := Lib.hid (BE_5.out.trans (hB3.mono BE_5.out.size))
  have OW_14 := Lib.hid (own_below OW_6.out hB3 (Nat.le_refl _))
  have OW_15 := Lib.hid (own_below OW_8.out hB3 (Nat.le_refl _))
  have BX_16 := Lib.hid (BX_7.out.below hB3 BX_7.out.lt)
  have BX_17 : Hid (Blk W3 W2.heap.size 26 #[.slice A2 L.length c2]) := Lib.hid kb3
  clear c_11 l_12 hb3 BE_5 OW_6 OW_8 BX_7 kb3 hB3
  have c_18 : W3.cell? ⟨W2.heap.size, 0, none⟩ = some (.slice A2 L.length c2) := BX_17.out.cell 0
  go_wp2_with fail
  refine (markstore1 _ (.slice A2 L.length c2) L (by omega) _ OW_15.out).mono ?_
  rintro e W4 ⟨rfl, ho4, hb4⟩
  have sz4 : W3.heap.size ≤ W4.heap.size := hb4.size
  have BE_19 : Hid (Below w.heap.size w W4) := Lib.hid (BE_13.out.grown hb4 BE_13.out.size (fun k hk => Nat.le_trans (by first | exact Nat.le_refl _ | omega) (LO_9.out k hk)))
  have OW_20 := Lib.hid (OW_14.out.kept hb4 (own_apart HI_4.out LO_9.out (by omega)))
  have BX_21 := Lib.hid (BX_16.out.grown hb4 (box_ne BX_16.out OW_15.out (by decide)))
  have BX_22 := Lib.hid (BX_17.out.grown hb4 (box_ne BX_17.out OW_15.out (by decide)))
  have OW_23 := Lib.hid ho4
  clear c_18 BE_13 OW_14 BX_16 BX_17 OW_15 ho4 hb4
  have c_24 : W4.cell? ⟨W2.heap.size, 0, none⟩ = some (.slice A2 L.length c2) := BX_22.out.cell 0
  go_wp2_with fail
  refine (heldstore1 (.slice A2 L.length c2) L.length (by omega) _ (rd_own OW_23.out (by first | omega | (simp [marksN_len, marksB_len]; omega)))).mono ?_
  rintro e W5 ⟨rfl, hb5⟩
  have sz5 : W4.heap.size ≤ W5.heap.size := hb5.size
  have BE_25 : Hid (Below w.heap.size w W5) := Lib.hid (BE_19.out.trans (hb5.mono BE_19.out.size))
  have OW_26 := Lib.hid (own_below OW_20.out hb5 (Nat.le_refl _))
  have OW_27 := Lib.hid (own_below OW_23.out hb5 (Nat.le_refl _))
  have BX_28 := Lib.hid (BX_21.out.below hb5 BX_21.out.lt)
  have BX_29 := Lib.hid (BX_22.out.below hb5 BX_22.out.lt)
  clear c_24 BE_19 OW_20 OW_23 BX_21 BX_22 hb5
  have hk1 : ¬ ((1 : Int) + (L.length : Int) < 0) := by omega
  go_wp2_with fail
  refine (HI.out _).mono ?_
  rintro e W6 ⟨u2, rfl, ho6, hb6⟩
  obtain ⟨A6, c6, rfl⟩ := own_form ho6
  have sz6 : W5.heap.size ≤ W6.heap.size := hb6.size
  have BE_30 : Hid (Below w.heap.size w W6) := Lib.hid (BE_25.out.trans (hb6.mono BE_25.out.size))
  have OW_31 := Lib.hid (own_below OW_26.out hb6 (Nat.le_refl _))
  have OW_32 := Lib.hid (own_below OW_27.out hb6 (Nat.le_refl _))
  have BX_33 := Lib.hid (BX_28.out.below hb6 BX_28.out.lt)
  have BX_34 := Lib.hid (BX_29.out.below hb6 BX_29.out.lt)
  have hp6 := ho6.mono (show W5.heap.size ≤ _ by exact Nat.le_refl _)
  have LO_36 := Lib.hid (own_lt hp6)
  have HI_37 := Lib.hid (fun k hk => (World.ownsRow.lt hp6 k hk).2)
  have OW_35 := Lib.hid hp6
  clear BE_25 OW_26 OW_27 BX_28 BX_29 ho6 hp6 hb6
  have c_38 : W6.cell? ⟨W1.heap.size, 0, none⟩ = some (.slice A1 L.length c1) := BX_33.out.cell 0
  have l_39 : W1.heap.size < W6.heap.size := BX_33.out.lt
  go_wp2_with fail
  refine (eqstore_same (.slice A6 L.length c6) (.slice A1 L.length c1) L _ ((rd_own OW_35.out (by first | omega | (simp [marksN_len, marksB_len]; omega))).below (below_alloc _ _)) ((rd_own OW_31.out (by first | omega | (simp [marksN_len, marksB_len]; omega))).below (below_alloc _ _))).mono ?_
  rintro e W7 ⟨rfl, hb7⟩
  obtain ⟨kb7, hB7, hz7⟩ := boxes1 hb7
  have sz7 : W6.heap.size ≤ W7.heap.size := hB7.size
  have BE_40 : Hid (Below w.heap.size w W7) := Lib.hid (BE_30.out.trans (hB7.mono BE_30.out.size))
  have OW_41 := Lib.hid (own_below OW_31.out hB7 (Nat.le_refl _))
  have OW_42 := Lib.hid (own_below OW_32.out hB7 (Nat.le_refl _))
  have OW_43 := Lib.hid (own_below OW_35.out hB7 (Nat.le_refl _))
  have BX_44 := Lib.hid (BX_33.out.below hB7 BX_33.out.lt)
  have BX_45 := Lib.hid (BX_34.out.below hB7 BX_34.out.lt)
  have BX_46 : Hid (Blk W7 W6.heap.size 26 #[.slice A6 L.length c6]) := Lib.hid kb7
  clear c_38 l_39 hb7 BE_30 OW_31 OW_32 OW_35 BX_33 BX_34 kb7 hB7
  have c_47 : W7.cell? ⟨W2.heap.size, 0, none⟩ = some (.slice A2 L.length c2) := BX_45.out.cell 0
  go_wp2_with fail
  refine (heldstore1 (.slice A2 L.length c2) L.length (by omega) _ (rd_own OW_42.out (by first | omega | (simp [marksN_len, marksB_len]; omega)))).mono ?_
  rintro e W8 ⟨rfl, hb8⟩
  have sz8 : W7.heap.size ≤ W8.heap.size := hb8.size
  have BE_48 : Hid (Below w.heap.size w W8) := Lib.hid (BE_40.out.trans (hb8.mono BE_40.out.size))
  have OW_49 := Lib.hid (own_below OW_41.out hb8 (Nat.le_refl _))
  have OW_50 := Lib.hid (own_below OW_42.out hb8 (Nat.le_refl _))
  have OW_51 := Lib.hid (own_below OW_43.out hb8 (Nat.le_refl _))
  have BX_52 := Lib.hid (BX_44.out.below hb8 BX_44.out.lt)
  have BX_53 := Lib.hid (BX_45.out.below hb8 BX_45.out.lt)
  have BX_54 := Lib.hid (BX_46.out.below hb8 BX_46.out.lt)
  clear c_47 BE_40 OW_41 OW_42 OW_43 BX_44 BX_45 BX_46 hb8
  go_wp2_with fail
  go_ret
  exact ⟨rfl, BE_48.out⟩

end Go.Proofs.Ytcddkcejjajlhaa
