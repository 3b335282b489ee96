/-
  BitsOf of the model answers a letter's code.
-/
import Derived.Test.YtllhcdkbgknjdaaLetters2
namespace Go.Proofs.Ytllhcdkbgknjdaa
open Go.RowKit

theorem bitsOf_range (k : Int) : 0 ≤ bitsOf k ∧ bitsOf k ≤ 127 := by
  unfold bitsOf
  by_cases h0 : k < 0
  · rw [if_pos h0]; omega
  · rw [if_neg h0]
    by_cases h1 : k < 8
    · rw [if_pos h1]; omega
    · rw [if_neg h1]
      by_cases h2 : k < 16
      · rw [if_pos h2]; omega
      · rw [if_neg h2]
        by_cases h3 : k < 48
        · rw [if_pos h3]; omega
        · rw [if_neg h3]; omega

theorem spec_bitsof (k : Int) (w : World) : Calls Try.prog 45 #[.int .i64 k] w fun e w' => e = .returned (.int .u32 (bitsOf k)) ∧ w = w' := by
  have HW := Lib.hid (spec_widthof k w)
  have four : widthOf k = 0 ∨ widthOf k = 4 ∨ widthOf k = 5 ∨ widthOf k = 7 := by
    unfold widthOf
    split
    · exact .inl rfl
    · split
      · exact .inr (.inl rfl)
      · split
        · exact .inr (.inr (.inl rfl))
        · split
          · exact .inr (.inr (.inr rfl))
          · exact .inl rfl
  have both : (widthOf k = 0 → bitsOf k = 0) ∧ (widthOf k = 4 → 0 ≤ k ∧ k < 8 ∧ bitsOf k = k) ∧ (widthOf k = 5 → 8 ≤ k ∧ k < 16 ∧ bitsOf k = k + 8) ∧ (widthOf k = 7 → 16 ≤ k ∧ k < 48 ∧ bitsOf k = k + 80) := by
    unfold widthOf bitsOf
    split
    · simp
    · split
      · simp; omega
      · split
        · simp; omega
        · split
          · simp; omega
          · simp
  rcases four with h | h | h | h
  · rw [both.1 h]
    rw [h] at HW
    clear both h
    go_enter Try.func45, Try.ntmps45
    go_wp2_with fail
    refine HW.out.mono ?_
    rintro e w' ⟨rfl, rfl⟩
    go_wp2_with fail
    go_ret
    exact ⟨rfl, rfl⟩
  · obtain ⟨h5, h6, h7⟩ := both.2.1 h
    rw [h7]
    rw [h] at HW
    clear both h h7
    go_enter Try.func45, Try.ntmps45
    go_wp2_with fail
    refine HW.out.mono ?_
    rintro e w' ⟨rfl, rfl⟩
    go_wp2_with fail
    go_ret
    exact ⟨rfl, rfl⟩
  · obtain ⟨h5, h6, h7⟩ := both.2.2.1 h
    rw [h7]
    rw [h] at HW
    clear both h h7
    go_enter Try.func45, Try.ntmps45
    go_wp2_with fail
    refine HW.out.mono ?_
    rintro e w' ⟨rfl, rfl⟩
    go_wp2_with fail
    go_ret
    exact ⟨rfl, rfl⟩
  · obtain ⟨h5, h6, h7⟩ := both.2.2.2 h
    rw [h7]
    rw [h] at HW
    clear both h h7
    go_enter Try.func45, Try.ntmps45
    go_wp2_with fail
    refine HW.out.mono ?_
    rintro e w' ⟨rfl, rfl⟩
    go_wp2_with fail
    go_ret
    exact ⟨rfl, rfl⟩
end Go.Proofs.Ytllhcdkbgknjdaa
