/-
  laws.FnExactStoreOk answers true at every store.
-/
import Derived.Test.YtcddkcejjajlhaaExKit
import Derived.Test.YtcddkcejjajlhaaHasBlk
namespace Go.Proofs.Ytcddkcejjajlhaa
open Go.RowKit Go

attribute [local go_sem ↓] Go.wp_at_zero Go.wp_at_succ
set_option maxRecDepth 100000 in
set_option maxHeartbeats 8000000 in
theorem law_FnExactStoreOk  (w : World) (A : Option Addr) (len c : Nat) (h0 : len ≤ 9223372036854775807) (hx : len ≤ 4611686018427387904 → ∃ xs : List Nat, xs.length = len ∧ (∀ x ∈ xs, x < 4294967296) ∧ RdN w (.slice A len c) xs) :
    Calls Try.prog 6 #[stA (.slice A len c)] w fun e w' => e = .returned (.bool true) ∧ Below w.heap.size w w' := by
  by_cases hs : len ≤ 1048576
  · obtain ⟨xs, rfl, hxs, hra⟩ := hx (by omega)
    have HRa := Lib.hid (fun W (hb : Below w.heap.size w W) => hra.below hb)
    have HS := Lib.hid (fun A c W => spec_storeok A xs.length c (by omega) W)
    have HI := Lib.hid (fun A c W => impl_storeok A xs.length c (by omega) W)
    obtain ⟨b, hb⟩ : ∃ b, storeB xs.length = b := ⟨_, rfl⟩
    rw [hb] at HS HI
    clear hb
    clear hra hx hxs h0
    go_enter Try.func6, Try.ntmps6
    go_wp2_with fail
    refine (szstore_fit A xs.length c 1048576 (by omega) (by omega) _).mono ?_
    rintro e W1 ⟨rfl, hb1⟩
    obtain ⟨kb1, hB1, hz1⟩ := boxes1 hb1
    have sz1 : w.heap.size ≤ W1.heap.size := hB1.size
    have BE_1 : Hid (Below w.heap.size w W1) := Lib.hid (hB1)
    have BX_2 : Hid (Blk W1 w.heap.size 45 #[.slice A xs.length c]) := Lib.hid kb1
    clear hb1 kb1 hB1
    have c_3 : W1.cell? ⟨w.heap.size, 0, none⟩ = some (.slice A xs.length c) := BX_2.out.cell 0
    go_wp2_with fail
    refine (tostore_any _ xs (by omega) _ (HRa.out _ BE_1.out)).mono ?_
    rintro e W2 ⟨tpxs, rfl, ho2, hb2⟩
    obtain ⟨A2, c2, rfl⟩ := own_form ho2
    have sz2 : W1.heap.size ≤ W2.heap.size := hb2.size
    have BE_4 : Hid (Below w.heap.size w W2) := Lib.hid (BE_1.out.trans (hb2.mono BE_1.out.size))
    have BX_5 := Lib.hid (BX_2.out.below hb2 BX_2.out.lt)
    have hp2 := ho2.mono (show W1.heap.size ≤ _ by exact Nat.le_refl _)
    have LO_7 := Lib.hid (own_lt hp2)
    have HI_8 := Lib.hid (fun k hk => (World.ownsRow.lt hp2 k hk).2)
    have OW_6 := Lib.hid hp2
    clear c_3 BE_1 BX_2 ho2 hp2 hb2
    go_wp2_with fail
    refine (HS.out A2 c2 _).mono ?_
    rintro e W3 ⟨rfl, hb3⟩
    have sz3 : W2.heap.size ≤ W3.heap.size := hb3.size
    have BE_9 : Hid (Below w.heap.size w W3) := Lib.hid (BE_4.out.trans (hb3.mono BE_4.out.size))
    have OW_10 := Lib.hid (own_below OW_6.out hb3 (Nat.le_refl _))
    have BX_11 := Lib.hid (BX_5.out.below hb3 BX_5.out.lt)
    clear BE_4 OW_6 BX_5 hb3
    clear OW_10 LO_7 HI_8
    have c_12 : W3.cell? ⟨w.heap.size, 0, none⟩ = some (.slice A xs.length c) := BX_11.out.cell 0
    go_wp2_with fail
    refine (tostore_any _ xs (by omega) _ (HRa.out _ BE_9.out)).mono ?_
    rintro e W4 ⟨xxsv, rfl, ho4, hb4⟩
    obtain ⟨A4, c4, rfl⟩ := own_form ho4
    have sz4 : W3.heap.size ≤ W4.heap.size := hb4.size
    have BE_13 : Hid (Below w.heap.size w W4) := Lib.hid (BE_9.out.trans (hb4.mono BE_9.out.size))
    have BX_14 := Lib.hid (BX_11.out.below hb4 BX_11.out.lt)
    have hp4 := ho4.mono (show W3.heap.size ≤ _ by exact Nat.le_refl _)
    have LO_16 := Lib.hid (own_lt hp4)
    have HI_17 := Lib.hid (fun k hk => (World.ownsRow.lt hp4 k hk).2)
    have OW_15 := Lib.hid hp4
    clear c_12 BE_9 BX_11 ho4 hp4 hb4
    go_wp2_with fail
    refine (HI.out A4 c4 _).mono ?_
    rintro e W5 ⟨rfl, hb5⟩
    obtain ⟨kb5, hB5, hz5⟩ := boxes1 hb5
    have sz5 : W4.heap.size ≤ W5.heap.size := hB5.size
    have BE_18 : Hid (Below w.heap.size w W5) := Lib.hid (BE_13.out.trans (hB5.mono BE_13.out.size))
    have OW_19 := Lib.hid (own_below OW_15.out hB5 (Nat.le_refl _))
    have BX_20 := Lib.hid (BX_14.out.below hB5 BX_14.out.lt)
    have BX_21 : Hid (Blk W5 W4.heap.size 26 #[.slice A4 xs.length c4]) := Lib.hid kb5
    clear hb5 BE_13 OW_15 BX_14 kb5 hB5
    have c_22 : W5.cell? ⟨w.heap.size, 0, none⟩ = some (.slice A xs.length c) := BX_20.out.cell 0
    have c_23 : W5.cell? ⟨W4.heap.size, 0, none⟩ = some (.slice A4 xs.length c4) := BX_21.out.cell 0
    go_wp2_with fail
    have HS6 := Lib.hid (BE_18.out.drew)
    go_region_held3 (fun w' => w'.cell? ⟨W4.heap.size, 0, none⟩ = some (.slice A4 xs.length c4) ∧ w'.cell? ⟨w.heap.size, 0, none⟩ = some (.slice A xs.length c)) (first | exact ⟨BX_21.out.cell 0, BX_20.out.cell 0⟩ | go_keep | exact ⟨(Blk.below BX_21.out.drew hb6_1 BX_21.out.lt).cell 0, (Blk.below BX_20.out.drew hb6_1 BX_20.out.lt).cell 0⟩ | exact ⟨(Blk.below BX_21.out.drew (hb6_1.trans (hb6_2.mono hb6_1.size)) BX_21.out.lt).cell 0, (Blk.below BX_20.out.drew (hb6_1.trans (hb6_2.mono hb6_1.size)) BX_20.out.lt).cell 0⟩) (first | (go_at_call 32; refine (tostore_any _ xs (by omega) _ (HRa.out _ HS6.out)).mono ?_; rintro e V6 ⟨tc6, rfl, hot6, hb6_1⟩) | (go_at_call 34; refine (eqstore_same _ _ xs _ (RdN.below (RdN.drew (rd_own OW_19.out (by first | omega | (simp [marksN_len, marksB_len]; omega)))) hb6_1) (rd_own hot6 (by omega))).mono ?_; rintro e W6 ⟨rfl, hb6_2⟩))
    have hB6 : Below W5.heap.size W5 W6 := (Below.refl _ _).drew.trans (hb6_1.trans (hb6_2.mono hb6_1.size))
    have sz6 : W5.heap.size ≤ W6.heap.size := hB6.size
    have BE_24 : Hid (Below w.heap.size w W6) := Lib.hid (BE_18.out.trans (hB6.mono BE_18.out.size))
    have OW_25 := Lib.hid (own_below OW_19.out hB6 (Nat.le_refl _))
    have BX_26 := Lib.hid (BX_20.out.below hB6 BX_20.out.lt)
    have BX_27 := Lib.hid (BX_21.out.below hB6 BX_21.out.lt)
    clear hb6_1 hb6_2 hot6 HS6 c_22 c_23 BE_18 OW_19 BX_20 BX_21 hB6
    go_wp2_with fail
    go_ret
    exact ⟨rfl, BE_24.out⟩
  · have hs2 : (1048576 : Int) < (len : Int) := by omega
    clear hs hx
    go_enter Try.func6, Try.ntmps6
    go_wp2_with fail
    refine (szstore_no A len c 1048576 (by omega) hs2 h0 _).mono ?_
    rintro e w1 ⟨rfl, hb⟩
    obtain ⟨-, hB, -⟩ := boxes1 hb
    have HB := Lib.hid hB
    clear hb hB
    go_wp2_with fail
    go_ret
    exact ⟨rfl, HB.out⟩

end Go.Proofs.Ytcddkcejjajlhaa
