/-
  BitsOf, of the program and of its model, answers a letter's code.
-/
import Derived.Test.YtaagaimafhadeaaDoorLetters2
import Derived.Test.YtaagaimafhadeaaDoorCodesLaid
namespace Go.Proofs.YtaagaimafhadeaaDoor
open Go.RowKit

theorem tab_bits : ∀ k : Nat, k < 48 → codesTab.getD k 0 = bitsOf k := by decide
theorem bitsOf_range (k : Int) : 0 ≤ bitsOf k ∧ bitsOf k ≤ 127 := by
  unfold bitsOf
  by_cases h0 : k < 0
  · rw [if_pos h0]; omega
  · rw [if_neg h0]
    by_cases h1 : k < 8
    · rw [if_pos h1]; omega
    · rw [if_neg h1]
      by_cases h2 : k < 16
      · rw [if_pos h2]; omega
      · rw [if_neg h2]
        by_cases h3 : k < 48
        · rw [if_pos h3]; omega
        · rw [if_neg h3]; omega

theorem impl_bitsof (k : Int) (w : World) (hc : Codes w) : Calls Tryd.prog 49 #[.int .i64 k] w fun e w' => e = .returned (.int .u32 (bitsOf k)) ∧ w = w' := by
  by_cases h : 0 ≤ k ∧ k ≤ 47
  · obtain ⟨n, rfl⟩ : ∃ n : Nat, k = n := ⟨k.toNat, by omega⟩
    have hb := Lib.hid (inB_true h.1 h.2)
    have hi := Lib.hid (isletter_any (n : Int) w)
    have hn : n < 48 := by omega
    have hcell := hc.cell n hn
    rw [tab_bits n hn] at hcell
    have hr := bitsOf_range (n : Int)
    obtain ⟨v, hv⟩ : ∃ v, bitsOf (n : Int) = v := ⟨_, rfl⟩
    rw [hv] at hcell hr ⊢
    obtain ⟨hr0, hr1⟩ := hr
    clear hv h hc
    go_enter Tryd.func49, Tryd.ntmps49
    go_wp2_with fail
    refine hi.out.mono ?_
    rintro e w' ⟨he, rfl⟩
    rw [hb.out] at he
    subst he
    go_wp2_with fail
    go_ret
    exact ⟨rfl, rfl⟩
  · have e : bitsOf k = 0 := by
      unfold bitsOf
      by_cases h0 : k < 0
      · rw [if_pos h0]
      · rw [if_neg h0, if_neg (by omega), if_neg (by omega), if_neg (by omega)]
    rw [e]
    have hb := Lib.hid (inB_false h)
    clear h e hc
    go_enter Tryd.func49, Tryd.ntmps49
    go_wp2_with fail
    refine (isletter_any _ _).mono ?_
    rintro e w' ⟨he, rfl⟩
    rw [hb.out] at he
    subst he
    go_wp2_with fail
    go_ret
    exact ⟨rfl, rfl⟩

theorem spec_bitsof (k : Int) (w : World) : Calls Tryd.prog 54 #[.int .i64 k] w fun e w' => e = .returned (.int .u32 (bitsOf k)) ∧ w = w' := by
  have HW := Lib.hid (spec_widthof k w)
  have four : widthOf k = 0 ∨ widthOf k = 4 ∨ widthOf k = 5 ∨ widthOf k = 7 := by
    unfold widthOf
    split
    · exact .inl rfl
    · split
      · exact .inr (.inl rfl)
      · split
        · exact .inr (.inr (.inl rfl))
        · split
          · exact .inr (.inr (.inr rfl))
          · exact .inl rfl
  have both : (widthOf k = 0 → bitsOf k = 0) ∧ (widthOf k = 4 → 0 ≤ k ∧ k < 8 ∧ bitsOf k = k) ∧ (widthOf k = 5 → 8 ≤ k ∧ k < 16 ∧ bitsOf k = k + 8) ∧ (widthOf k = 7 → 16 ≤ k ∧ k < 48 ∧ bitsOf k = k + 80) := by
    unfold widthOf bitsOf
    split
    · simp
    · split
      · simp; omega
      · split
        · simp; omega
        · split
          · simp; omega
          · simp
  rcases four with h | h | h | h
  · rw [both.1 h]
    rw [h] at HW
    clear both h
    go_enter Tryd.func54, Tryd.ntmps54
    go_wp2_with fail
    refine HW.out.mono ?_
    rintro e w' ⟨rfl, rfl⟩
    go_wp2_with fail
    go_ret
    exact ⟨rfl, rfl⟩
  · obtain ⟨h5, h6, h7⟩ := both.2.1 h
    rw [h7]
    rw [h] at HW
    clear both h h7
    go_enter Tryd.func54, Tryd.ntmps54
    go_wp2_with fail
    refine HW.out.mono ?_
    rintro e w' ⟨rfl, rfl⟩
    go_wp2_with fail
    go_ret
    exact ⟨rfl, rfl⟩
  · obtain ⟨h5, h6, h7⟩ := both.2.2.1 h
    rw [h7]
    rw [h] at HW
    clear both h h7
    go_enter Tryd.func54, Tryd.ntmps54
    go_wp2_with fail
    refine HW.out.mono ?_
    rintro e w' ⟨rfl, rfl⟩
    go_wp2_with fail
    go_ret
    exact ⟨rfl, rfl⟩
  · obtain ⟨h5, h6, h7⟩ := both.2.2.2 h
    rw [h7]
    rw [h] at HW
    clear both h h7
    go_enter Tryd.func54, Tryd.ntmps54
    go_wp2_with fail
    refine HW.out.mono ?_
    rintro e w' ⟨rfl, rfl⟩
    go_wp2_with fail
    go_ret
    exact ⟨rfl, rfl⟩
end Go.Proofs.YtaagaimafhadeaaDoor
