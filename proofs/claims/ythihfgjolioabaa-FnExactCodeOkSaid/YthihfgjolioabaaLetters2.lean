/-
  The letters: WidthOf and LetterOf, of the program and of its model, answer the plain functions.
-/
import Derived.Test.YthihfgjolioabaaLetters
namespace Go.Proofs.Ythihfgjolioabaa
open Go.RowKit

theorem impl_letterof (c : UInt8) (w : World) : Calls Try.prog 56 #[.int .u8 (c.toNat : Int)] w fun e w' => e = .returned (.int .i64 (letOf c)) ∧ w = w' := by
  have HC := Lib.hid (Try.strings_IndexByte lets (c.toNat : Int) w)
  go_enter Try.func56, Try.ntmps56
  go_wp2_with fail
  refine HC.out.mono ?_
  rintro e w' ⟨rfl, hw⟩
  subst hw
  go_wp2_with fail
  go_ret
  exact ⟨rfl, rfl⟩

set_option maxHeartbeats 1000000 in
theorem spec_letterof (c : UInt8) (w : World) : Calls Try.prog 52 #[.int .u8 (c.toNat : Int)] w fun e w' => e = .returned (.int .i64 (letOf c)) ∧ w = w' := by
  have HL := Lib.hid (lets_any w)
  have HF : Hid (∀ (k : Nat) (h : k < 48), lets[k]'(by rw [lets_size]; exact h) = c → (∀ (j : Nat) (hj : j < k), lets[j]'(by rw [lets_size]; omega) ≠ c) → letOf c = k) := Lib.hid fun k h => letOf_first h
  have HN : Hid ((∀ (j : Nat) (hj : j < 48), lets[j]'(by rw [lets_size]; exact hj) ≠ c) → letOf c = -1) := Lib.hid letOf_none
  obtain ⟨s, hs⟩ : ∃ s, lets = s := ⟨_, rfl⟩
  obtain ⟨v, hv⟩ : ∃ v, letOf c = v := ⟨_, rfl⟩
  have hsz := lets_size
  have HF2 : Hid (∀ (k : Nat) (h : k < s.size), s[k] = c → (∀ (j : Nat) (hj : j < k), s[j] ≠ c) → v = k) := Lib.hid (by subst hs hv; exact HF.out)
  have HN2 : Hid ((∀ (j : Nat) (hj : j < s.size), s[j] ≠ c) → v = -1) := Lib.hid (by subst hs hv; exact HN.out)
  rw [hv]
  rw [hs] at HL hsz
  clear hs hv HF HN
  have hc0 := u8_le c
  have HS : Hid (s.size = 48) := Lib.hid hsz
  have hs1 : s.size ≤ 48 := by omega
  clear hsz
  go_enter Try.func52, Try.ntmps52
  go_wp2_with fail
  refine HL.out.mono ?_
  rintro e w' ⟨rfl, rfl⟩
  go_wp2_with fail
  go_loop [4] (fun i => ∃ k : Nat, k ≤ s.size ∧ i = .int .i64 k ∧ Hid (∀ (j : Nat) (hj : j < s.size), j < k → s[j] ≠ c)) (fun i => s.size - (intOf i).toNat)
  case atStart => exact ⟨0, by omega, rfl, Lib.hid fun j _ h => by omega⟩
  case round =>
    obtain ⟨k, hk, rfl, HK⟩ := hrel
    by_cases hlt : k < s.size
    · have hck := u8_le s[k]
      by_cases he : s[k] = c
      · have he' : ((s[k].toNat : Int) == (c.toNat : Int)) = true := by simp [he]
        have HV := Lib.hid (HF2.out k hlt he fun j hj => HK.out j (by omega) hj)
        clear he
        go_wp2
        go_ret
        exact ⟨by rw [HV.out]; rfl, rfl⟩
      · have he' : ((s[k].toNat : Int) == (c.toNat : Int)) = false := u8_ne he
        have HK2 : Hid (∀ (j : Nat) (hj : j < s.size), j < k + 1 → s[j] ≠ c) := Lib.hid fun j hj h => by
          rcases Nat.lt_or_ge j k with h2 | h2
          · exact HK.out j hj h2
          · obtain rfl : j = k := by omega
            exact he
        clear he
        go_wp2
        go_round
        case rel => exact ⟨k + 1, by omega, by go_num, HK2⟩
        case measure => simp [intOf]; omega
    · have HV := Lib.hid (HN2.out fun j hj => HK.out j hj (by omega))
      go_wp2
      go_ret
      exact ⟨by rw [HV.out]; rfl, rfl⟩
end Go.Proofs.Ythihfgjolioabaa
