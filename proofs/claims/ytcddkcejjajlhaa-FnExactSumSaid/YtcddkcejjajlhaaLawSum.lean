/-
  laws.FnExactSum answers true at every list.
-/
import Derived.Test.YtcddkcejjajlhaaExKit
import Derived.Test.YtcddkcejjajlhaaSum
namespace Go.Proofs.Ytcddkcejjajlhaa
open Go.RowKit Go

attribute [local go_sem ↓] Go.wp_at_zero Go.wp_at_succ
set_option maxRecDepth 100000 in
set_option maxHeartbeats 8000000 in
theorem law_FnExactSum (w : World) (A : Option Addr) (len c : Nat) (h0 : len ≤ 9223372036854775807) (hx : len ≤ 4611686018427387904 → ∃ xs : List Nat, xs.length = len ∧ (∀ x ∈ xs, x < 4294967296) ∧ RdN w (.slice A len c) xs) :
    Calls Try.prog 12 #[.slice A len c] w fun e w' => e = .returned (.bool true) ∧ Below w.heap.size w w' := by
  by_cases hs : len ≤ 1048576
  · obtain ⟨xs, rfl, hxs, hra⟩ := hx (by omega)
    have HRxs := Lib.hid (fun W (hb : Below w.heap.size w W) => hra.below hb)
    have hs3 : ¬ (1048576 : Int) < (xs.length : Int) := by omega
    have HS := Lib.hid (fun v W (h : RdN W v xs) => spec_sum_b v xs hxs W h)
    have HI := Lib.hid (fun v W (h : RdN W v xs) => impl_sum_b v xs hxs W h)
    obtain ⟨z, hz⟩ : ∃ z, sumL xs = z := ⟨_, rfl⟩
    rw [hz] at HS HI
    clear hz hra hx hxs h0
    go_enter Try.func12, Try.ntmps12
    go_wp2_with fail
    refine (tou_any _ xs (by omega) _ (HRxs.out _ (Below.refl _ _))).mono ?_
    rintro e W1 ⟨tpxs, rfl, ho1, hb1⟩
    obtain ⟨A1, c1, rfl⟩ := own_form ho1
    have sz1 : w.heap.size ≤ W1.heap.size := hb1.size
    have BE_1 : Hid (Below w.heap.size w W1) := Lib.hid (hb1)
    have hp1 := ho1.mono (show w.heap.size ≤ _ by exact Nat.le_refl _)
    have LO_3 := Lib.hid (own_lt hp1)
    have HI_4 := Lib.hid (fun k hk => (World.ownsRow.lt hp1 k hk).2)
    have OW_2 := Lib.hid hp1
    clear ho1 hp1 hb1
    go_wp2_with fail
    refine (HS.out _ _ (rd_own OW_2.out (by first | omega | (simp [marksN_len, marksB_len]; omega)))).mono ?_
    rintro e W2 ⟨rfl, hb2⟩
    have sz2 : W1.heap.size ≤ W2.heap.size := hb2.size
    have BE_5 : Hid (Below w.heap.size w W2) := Lib.hid (BE_1.out.trans (hb2.mono BE_1.out.size))
    have OW_6 := Lib.hid (own_below OW_2.out hb2 (Nat.le_refl _))
    clear BE_1 OW_2 hb2
    clear OW_6 LO_3 HI_4
    go_wp2_with fail
    refine (tou_any _ xs (by omega) _ (HRxs.out _ BE_5.out)).mono ?_
    rintro e W3 ⟨xxsv, rfl, ho3, hb3⟩
    obtain ⟨A3, c3, rfl⟩ := own_form ho3
    have sz3 : W2.heap.size ≤ W3.heap.size := hb3.size
    have BE_7 : Hid (Below w.heap.size w W3) := Lib.hid (BE_5.out.trans (hb3.mono BE_5.out.size))
    have hp3 := ho3.mono (show W2.heap.size ≤ _ by exact Nat.le_refl _)
    have LO_9 := Lib.hid (own_lt hp3)
    have HI_10 := Lib.hid (fun k hk => (World.ownsRow.lt hp3 k hk).2)
    have OW_8 := Lib.hid hp3
    clear BE_5 ho3 hp3 hb3
    go_wp2_with fail
    refine (HI.out _ _ (rd_own OW_8.out (by first | omega | (simp [marksN_len, marksB_len]; omega)))).mono ?_
    rintro e W4 ⟨rfl, hb4⟩
    have sz4 : W3.heap.size ≤ W4.heap.size := hb4.size
    have BE_11 : Hid (Below w.heap.size w W4) := Lib.hid (BE_7.out.trans (hb4.mono BE_7.out.size))
    have OW_12 := Lib.hid (own_below OW_8.out hb4 (Nat.le_refl _))
    clear BE_7 OW_8 hb4
    go_wp2_with fail
    refine (tou_any _ xs (by omega) _ (HRxs.out _ BE_11.out)).mono ?_
    rintro e W5 ⟨tcxs, rfl, ho5, hb5⟩
    obtain ⟨A5, c5, rfl⟩ := own_form ho5
    have sz5 : W4.heap.size ≤ W5.heap.size := hb5.size
    have BE_13 : Hid (Below w.heap.size w W5) := Lib.hid (BE_11.out.trans (hb5.mono BE_11.out.size))
    have OW_14 := Lib.hid (own_below OW_12.out hb5 (Nat.le_refl _))
    have hp5 := ho5.mono (show W4.heap.size ≤ _ by exact Nat.le_refl _)
    have LO_16 := Lib.hid (own_lt hp5)
    have HI_17 := Lib.hid (fun k hk => (World.ownsRow.lt hp5 k hk).2)
    have OW_15 := Lib.hid hp5
    clear BE_11 OW_12 ho5 hp5 hb5
    go_wp2_with fail
    refine (eqn_same _ _ xs _ (rd_own OW_14.out (by first | omega | (simp [marksN_len, marksB_len]; omega))) (rd_own OW_15.out (by first | omega | (simp [marksN_len, marksB_len]; omega)))).mono ?_
    rintro e W6 ⟨rfl, hb6⟩
    have sz6 : W5.heap.size ≤ W6.heap.size := hb6.size
    have BE_18 : Hid (Below w.heap.size w W6) := Lib.hid (BE_13.out.trans (hb6.mono BE_13.out.size))
    have OW_19 := Lib.hid (own_below OW_14.out hb6 (Nat.le_refl _))
    have OW_20 := Lib.hid (own_below OW_15.out hb6 (Nat.le_refl _))
    clear BE_13 OW_14 OW_15 hb6
    clear OW_20 LO_16 HI_17
    go_wp2_with fail
    go_ret
    exact ⟨rfl, BE_18.out⟩
  · have hs3 : (1048576 : Int) < (len : Int) := by omega
    clear hs hx
    go_enter Try.func12, Try.ntmps12
    go_wp2_with fail
    go_ret
    exact ⟨rfl, Below.refl _ _⟩

end Go.Proofs.Ytcddkcejjajlhaa
