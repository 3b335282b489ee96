/-
  Plain mathematics of decimal texts, no program: how the digits of a number are gathered from the last one on.
-/
import Derived.Lib.ItoaNum
import Derived.Lib.ItoaLen
namespace Go.Proofs.YthihfgjolioabaaDoor

/-- The decimal digits of u, none for 0. -/
def dd (u : Nat) : List UInt8 := if u = 0 then [] else Lib.decDigits u
theorem dd_zero : dd 0 = [] := rfl
theorem dd_pos {u : Nat} (h : u ≠ 0) : dd u = Lib.decDigits u := by unfold dd; rw [if_neg h]
theorem dd_step {u : Nat} (h : u ≠ 0) : dd u = dd (u / 10) ++ [UInt8.ofNat (48 + u % 10)] := by
  rw [dd_pos h, Lib.decDigits]
  by_cases h10 : u < 10
  · rw [dif_pos h10]
    have : u / 10 = 0 := by omega
    rw [this, dd_zero, Nat.mod_eq_of_lt h10]; rfl
  · rw [dif_neg h10, dd_pos (by omega)]
theorem dd_length {u : Nat} (h : u < 18446744073709551616) : (dd u).length ≤ 20 := by
  by_cases h0 : u = 0
  · subst h0; rw [dd_zero]; simp
  · rw [dd_pos h0, Lib.decDigits_length]; exact Lib.nDigits_le20 u h

def tenDigits : ByteArray := ⟨#[48, 49, 50, 51, 52, 53, 54, 55, 56, 57]⟩
theorem tenDigits_one_fin : ∀ i : Fin 10, tenDigits.extract i.val (i.val + 1) = ⟨#[UInt8.ofNat (48 + i.val)]⟩ := by decide +kernel
theorem tenDigits_one {i : Nat} (h : i < 10) : tenDigits.extract i (i + 1) = ⟨#[UInt8.ofNat (48 + i)]⟩ := tenDigits_one_fin ⟨i, h⟩
end Go.Proofs.YthihfgjolioabaaDoor
