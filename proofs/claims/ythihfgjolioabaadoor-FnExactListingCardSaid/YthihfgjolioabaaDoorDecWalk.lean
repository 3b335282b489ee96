/-
  spec.DecText answers the number's decimal numeral, at every int.
-/
import Derived.Test.YthihfgjolioabaaDoorDecMath
import Derived.Test.YthihfgjolioabaaDoorProg
import Derived.WalkKit
import Derived.WalkSpells
import Derived.Lib.Hide
import Derived.Lib.ItoaMem
import Derived.LoopTactic
namespace Go.Proofs.YthihfgjolioabaaDoor
open Go.RowKit

theorem ret_string {a b : List UInt8} (h : a = b) : Ending.returned (.string ⟨a.toArray⟩) = .returned (.string ⟨b.toArray⟩) := by rw [h]

theorem fin_neg {n : Int} (h : n < 0) : Ending.returned (.string ((⟨#[45]⟩ : ByteArray) ++ ⟨(dd n.natAbs).toArray⟩)) = .returned (.string ⟨(Lib.itoa n).toArray⟩) := by
  rw [ByteArray.mk_append_mk, dd_pos (by omega)]
  unfold Lib.itoa
  rw [if_pos h]
  simp
theorem fin_pos {n : Int} (h : 0 < n) : Ending.returned (.string (⟨(dd n.natAbs).toArray⟩ : ByteArray)) = .returned (.string ⟨(Lib.itoa n).toArray⟩) := by
  rw [dd_pos (by omega)]
  unfold Lib.itoa
  rw [if_neg (by omega), show n.toNat = n.natAbs by omega]

theorem dig_string (l : List UInt8) (j : Nat) : Value.string ((⟨#[48, 49, 50, 51, 52, 53, 54, 55, 56, 57]⟩ : ByteArray).extract (j % 10) (j % 10 + 1) ++ ⟨l.toArray⟩) = .string ⟨(UInt8.ofNat (48 + j % 10) :: l).toArray⟩ := by
  rw [show (⟨#[48, 49, 50, 51, 52, 53, 54, 55, 56, 57]⟩ : ByteArray) = tenDigits from rfl, tenDigits_one (Nat.mod_lt _ (by decide)), ByteArray.mk_append_mk]
  simp
theorem dig_step {j : Nat} {l m : List UInt8} (h : dd j ++ l = m) (hj : j ≠ 0) : dd (j / 10) ++ UInt8.ofNat (48 + j % 10) :: l = m := by
  rw [dd_step hj] at h
  simpa using h

theorem dig_neg {j : Nat} {l m : List UInt8} (h : dd (-(j : Int)).natAbs ++ l = m) (hj : j ≠ 0) : dd (-((j / 10 : Nat) : Int)).natAbs ++ UInt8.ofNat (48 + j % 10) :: l = m := by
  rw [Int.natAbs_neg, Int.natAbs_natCast] at *
  exact dig_step h hj

set_option maxHeartbeats 1000000 in
theorem spec_dectext (n : Int) (h0 : -9223372036854775808 ≤ n) (h1 : n ≤ 9223372036854775807) (w : World) :
    Calls Tryd.prog 15 #[.int .i64 n] w fun e w' => e = .returned (.string ⟨(Lib.itoa n).toArray⟩) ∧ w = w' := by
  by_cases hz : n = 0
  · subst hz
    go_enter Tryd.func15, Tryd.ntmps15
    go_wp2
    go_ret
    exact ⟨ret_string (a := [48]) (by decide +kernel), rfl⟩
  · have hz' : (n == 0) = false := by simpa using hz
    have hnl := dd_length (u := n.natAbs) (by omega)
    go_enter Tryd.func15, Tryd.ntmps15
    go_wp2
    go_loop [3, 4] (fun out m => ∃ (k : Int) (l : List UInt8), m = .int .i64 k ∧ out = .string ⟨l.toArray⟩ ∧ dd k.natAbs ++ l = dd n.natAbs ∧ (n < 0 → k ≤ 0) ∧ (0 < n → 0 ≤ k) ∧ k.natAbs ≤ n.natAbs) (fun _ m => (intOf m).natAbs)
    case atStart => exact ⟨n, [], rfl, rfl, by simp, by omega, by omega, by omega⟩
    case round =>
      obtain ⟨k, l, rfl, rfl, hl, hneg, hpos, hle⟩ := hrel
      have hll : l.length ≤ 20 := by
        have := congrArg List.length hl
        simp at this; omega
      by_cases hk : k = 0
      · subst hk
        have HM : l = dd n.natAbs := by simpa [dd_zero] using hl
        subst HM
        clear hl
        by_cases hn : n < 0
        · go_wp2
          go_ret
          exact ⟨fin_neg hn, rfl⟩
        · go_wp2
          go_ret
          exact ⟨fin_pos (by omega), rfl⟩
      · have hk' : (k != 0) = true := by simpa using hk
        have HL := Lib.hid hl
        clear hl
        by_cases hn : n < 0
        · obtain ⟨j, rfl⟩ : ∃ j : Nat, k = -(j : Int) := ⟨k.natAbs, by omega⟩
          have hm : (-(j : Int)).tmod 10 = -((j % 10 : Nat) : Int) := by rw [Int.neg_tmod]; rfl
          go_wp2
          · go_round
            case rel => exact ⟨-((j / 10 : Nat) : Int), _, by go_num, dig_string l j, dig_neg HL.out (by omega), by omega, by omega, by omega⟩
            case measure => simp [intOf]; omega
          · have hd : (-(j : Int) % 10) = 0 := by omega
            go_round
            case rel => exact ⟨-((j / 10 : Nat) : Int), UInt8.ofNat (48 + j % 10) :: l, by go_num, (by rw [show (-((j : Int) % 10)).toNat = j % 10 by omega, show (-((j : Int) % 10) + 1).toNat = j % 10 + 1 by omega]; exact dig_string l j), dig_neg HL.out (by omega), by omega, by omega, by omega⟩
            case measure => simp [intOf]; omega
        · obtain ⟨j, rfl⟩ : ∃ j : Nat, k = (j : Int) := ⟨k.natAbs, by omega⟩
          go_wp2
          go_round
          case rel => exact ⟨((j / 10 : Nat) : Int), _, by go_num, dig_string l j, dig_step HL.out (by omega), by omega, by omega, by omega⟩
          case measure => simp [intOf]; omega
end Go.Proofs.YthihfgjolioabaaDoor
