/-
  A letter comes back from its number and from its code, whatever bits stand behind it.
-/
import Derived.Test.YthihfgjolioabaaDoorDecodeMath
namespace Go.Proofs.YthihfgjolioabaaDoor
open Go.RowKit Go

theorem back_all : ∀ k : Nat, k < 48 → letOf (UInt8.ofNat (letAt (k : Int)).toNat) = (k : Int) ∧ 0 ≤ letAt (k : Int) ∧ letAt (k : Int) ≤ 255 := by decide +kernel
theorem letAt_back {k : Nat} (h : k < 48) : ∃ c : UInt8, letAt (k : Int) = (c.toNat : Int) ∧ letOf c = (k : Int) := by
  obtain ⟨h1, h2, h3⟩ := back_all k h
  refine ⟨_, ?_, h1⟩
  rw [UInt8.toNat_ofNat_of_lt' (by show _ < 256; omega)]
  omega
def wN (k : Nat) : Nat := (widthOf (k : Int)).toNat
def bN (k : Nat) : Nat := (bitsOf (k : Int)).toNat
theorem code_apart : ∀ k : Nat, k < 48 → bN k < 2 ^ wN k ∧ ((bN k : Nat) : Int) = bitsOf (k : Int) ∧ ∀ j : Nat, j < k → wN j ≤ wN k ∧ ((bN k / 2 ^ (wN k - wN j) : Nat) : Int) ≠ bitsOf (j : Int) := by decide +kernel
theorem code_front (k rest r : Nat) (hk : k < 48) (hr : r < 2 ^ rest) : decodeN (bN k * 2 ^ rest + r) (wN k + rest) = ((k : Int), widthOf k) := by
  obtain ⟨h1, h2, h3⟩ := code_apart k hk
  have hlt : bN k * 2 ^ rest + r < 2 ^ (wN k + rest) := by
    rw [Nat.pow_add]
    calc bN k * 2 ^ rest + r < bN k * 2 ^ rest + 2 ^ rest := by omega
      _ = (bN k + 1) * 2 ^ rest := by rw [Nat.add_mul, Nat.one_mul]
      _ ≤ 2 ^ wN k * 2 ^ rest := Nat.mul_le_mul_right _ h1
  have hq : (bN k * 2 ^ rest + r) / 2 ^ rest = bN k := by
    rw [Nat.mul_comm, Nat.mul_add_div (Nat.two_pow_pos _), Nat.div_eq_of_lt hr]
    rfl
  refine decodeN_some hk ?_ fun j hj => ?_
  · unfold codeAt
    rw [Nat.mod_eq_of_lt hlt]
    refine decide_eq_true ⟨Nat.le_add_right _ _, ?_⟩
    rw [show wN k + rest - (widthOf (k : Int)).toNat = rest from Nat.add_sub_cancel_left _ _, hq, h2]
  · obtain ⟨h4, h5⟩ := h3 j hj
    unfold codeAt
    rw [Nat.mod_eq_of_lt hlt]
    refine decide_eq_false fun ⟨_, h6⟩ => h5 ?_
    rw [← h6, show wN k + rest - (widthOf (j : Int)).toNat = rest + (wN k - wN j) by show wN k + rest - wN j = _; omega, Nat.pow_add, ← Nat.div_div_eq_div_mul, hq]
theorem or_front (b rest r : Nat) (hr : r < 2 ^ rest) : (b * 2 ^ rest) ||| r = b * 2 ^ rest + r := by
  rw [Nat.mul_comm, ← Nat.two_pow_add_eq_or_of_lt hr]
theorem front_bits (b m rest : Nat) (hb : b ≤ 127) (hm : m < 4294967296) (hr : rest ≤ 20) :
    bits .or .u32 ((b : Int) * 2 ^ rest % 4294967296) (bits .and .u32 (m : Int) ((2 ^ rest - 1) % 4294967296)) = ((b * 2 ^ rest + m % 2 ^ rest : Nat) : Int) := by
  have h1 : 2 ^ rest ≤ 2 ^ 20 := Nat.pow_le_pow_right (by decide) hr
  have h0 : 1 ≤ 2 ^ rest := Nat.one_le_two_pow
  have h2 : b * 2 ^ rest ≤ 127 * 2 ^ 20 := Nat.mul_le_mul hb h1
  have e1 : (b : Int) * 2 ^ rest % 4294967296 = ((b * 2 ^ rest : Nat) : Int) := by
    have e : (b : Int) * 2 ^ rest = ((b * 2 ^ rest : Nat) : Int) := by push_cast; rfl
    rw [e]
    omega
  have e2 : ((2 : Int) ^ rest - 1) % 4294967296 = ((2 ^ rest - 1 : Nat) : Int) := by
    have e : (2 : Int) ^ rest = ((2 ^ rest : Nat) : Int) := by push_cast; rfl
    rw [e]
    omega
  have h3 : m % 2 ^ rest < 2 ^ rest := Nat.mod_lt _ h0
  rw [e1, e2, mask_u32 m rest hm (by omega), bitsor_u32 _ _ (by omega) (by omega), or_front b rest _ h3]
end Go.Proofs.YthihfgjolioabaaDoor
