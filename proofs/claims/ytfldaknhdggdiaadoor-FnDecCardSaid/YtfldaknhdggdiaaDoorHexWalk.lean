/-
  spec.HexText answers the number's digits in base 16, at every uint32.
-/
import Derived.Test.YtfldaknhdggdiaaDoorHexMath
import Derived.Test.YtfldaknhdggdiaaDoorSmall
namespace Go.Proofs.YtfldaknhdggdiaaDoor
open Go.RowKit

theorem hret_string {a b : List UInt8} (h : a = b) : Ending.returned (.string ⟨a.toArray⟩) = .returned (.string ⟨b.toArray⟩) := by rw [h]
theorem hdig_string (l : List UInt8) (j : Nat) : Value.string ((⟨#[48, 49, 50, 51, 52, 53, 54, 55, 56, 57, 97, 98, 99, 100, 101, 102]⟩ : ByteArray).extract (j % 16) (j % 16 + 1) ++ ⟨l.toArray⟩) = .string ⟨(hdig (j % 16) :: l).toArray⟩ := by
  rw [show (⟨#[48, 49, 50, 51, 52, 53, 54, 55, 56, 57, 97, 98, 99, 100, 101, 102]⟩ : ByteArray) = sixteen from rfl, sixteen_one (Nat.mod_lt _ (by decide)), ByteArray.mk_append_mk]
  simp
theorem hdig_step {j : Nat} {l m : List UInt8} (h : hh j ++ l = m) (hj : j ≠ 0) : hh (j / 16) ++ hdig (j % 16) :: l = m := by
  rw [hh_step hj] at h
  simpa using h

set_option maxHeartbeats 1000000 in
theorem spec_hextext (n : Nat) (h1 : n < 4294967296) (w : World) :
    Calls Tryd.prog 17 #[.int .u32 n] w fun e w' => e = .returned (.string ⟨(hexDigits n).toArray⟩) ∧ w = w' := by
  by_cases hz : n = 0
  · subst hz
    go_enter Tryd.func17, Tryd.ntmps17
    go_wp2
    go_ret
    exact ⟨hret_string (a := [48]) (by rw [hex_small (by decide)]; rfl), rfl⟩
  · have hz' : ((n : Int) == 0) = false := by simpa using hz
    have hnl := hh_length h1
    go_enter Tryd.func17, Tryd.ntmps17
    go_wp2
    go_loop [3, 4] (fun out m => ∃ (k : Nat) (l : List UInt8), m = .int .i64 k ∧ out = .string ⟨l.toArray⟩ ∧ hh k ++ l = hh n ∧ k ≤ n) (fun _ m => (intOf m).natAbs)
    case atStart => exact ⟨n, [], rfl, rfl, by simp, by omega⟩
    case round =>
      obtain ⟨k, l, rfl, rfl, hl, hle⟩ := hrel
      have hll : l.length ≤ 8 := by
        have := congrArg List.length hl
        simp at this; omega
      by_cases hk : k = 0
      · subst hk
        have HM : l = hh n := by simpa [hh_zero] using hl
        subst HM
        clear hl
        go_wp2
        go_ret
        exact ⟨hret_string (hh_pos hz), rfl⟩
      · have hk' : (0 : Int) < (k : Int) := by omega
        have HL := Lib.hid hl
        clear hl
        go_wp2
        go_round
        case rel => exact ⟨k / 16, _, by go_num, hdig_string l k, hdig_step HL.out (by omega), by omega⟩
        case measure => simp [intOf]; omega
end Go.Proofs.YtfldaknhdggdiaaDoor
