/-
  Which letter's code stands first in a text of bits, as a plain function.
-/
import Derived.Test.YthihfgjolioabaaDoorLetMath
import Derived.Test.YthihfgjolioabaaDoorBits
namespace Go.Proofs.YthihfgjolioabaaDoor
open Go.RowKit Go

/-- Whether the code of letter k stands first in the n lowest bits of x. -/
def codeAt (x n k : Nat) : Bool := decide ((widthOf k).toNat ≤ n ∧ (((x % 2 ^ n) / 2 ^ (n - (widthOf k).toNat) : Nat) : Int) = bitsOf k)
/-- The letter whose code stands first in the n lowest bits of x, and how many bits it has. -/
def decodeN (x n : Nat) : Int × Int := match (List.range 48).find? (codeAt x n) with
  | some k => ((k : Int), widthOf k)
  | none => (-1, 0)
def decode (x : Nat) (n : Int) : Int × Int := if 1 ≤ n ∧ n ≤ 32 then decodeN x n.toNat else (-1, 0)
theorem codeAt_iff {x n k d : Nat} {b : Int} (hd : widthOf (k : Int) = (d : Int)) (hb : bitsOf (k : Int) = b) : codeAt x n k = decide (d ≤ n ∧ ((x % 2 ^ n / 2 ^ (n - d) : Nat) : Int) = b) := by
  unfold codeAt
  rw [hd, hb]
  rfl
theorem codeAt_true {x n k d : Nat} {b t : Int} (hd : widthOf (k : Int) = (d : Int)) (hb : bitsOf (k : Int) = b) (h1 : d ≤ n) (ht : t = ((x % 2 ^ n / 2 ^ (n - d) : Nat) : Int)) (h2 : t = b) : codeAt x n k = true := by
  rw [codeAt_iff hd hb, ← ht]
  exact decide_eq_true ⟨h1, h2⟩
theorem codeAt_false {x n k d : Nat} {b t : Int} (hd : widthOf (k : Int) = (d : Int)) (hb : bitsOf (k : Int) = b) (ht : t = ((x % 2 ^ n / 2 ^ (n - d) : Nat) : Int)) (h2 : t ≠ b) : codeAt x n k = false := by
  rw [codeAt_iff hd hb, ← ht]
  exact decide_eq_false fun h => h2 h.2
theorem codeAt_short {x n k d : Nat} (hd : widthOf (k : Int) = (d : Int)) (h : ¬ d ≤ n) : codeAt x n k = false := by
  rw [codeAt_iff hd rfl]
  exact decide_eq_false fun h2 => h h2.1
theorem find_first {p : Nat → Bool} {m k : Nat} (hk : k < m) (h : p k = true) (hn : ∀ j, j < k → p j = false) : (List.range m).find? p = some k := by
  rw [List.find?_eq_some_iff_getElem]
  refine ⟨h, k, by simpa using hk, by simp, fun j hj => ?_⟩
  have h1 := hn j hj
  simp [h1]
theorem find_none {p : Nat → Bool} {m : Nat} (hn : ∀ j, j < m → p j = false) : (List.range m).find? p = none := by
  rw [List.find?_eq_none]
  intro x hx
  have h1 := hn x (by simpa using hx)
  simp [h1]
theorem decodeN_some {x n k : Nat} (hk : k < 48) (h : codeAt x n k = true) (hn : ∀ j, j < k → codeAt x n j = false) : decodeN x n = ((k : Int), widthOf k) := by
  unfold decodeN
  rw [find_first hk h hn]
theorem decodeN_none {x n : Nat} (hn : ∀ j, j < 48 → codeAt x n j = false) : decodeN x n = (-1, 0) := by
  unfold decodeN
  rw [find_none hn]
/-- The highest bits of a text that was pushed to the top are its first bits. -/
theorem top_bits (x n w : Nat) (hn : n ≤ 32) (hw : w ≤ n) : (x * 2 ^ (32 - n)) % 4294967296 / 2 ^ (32 - w) = (x % 2 ^ n) / 2 ^ (n - w) := by
  have e1 : (4294967296 : Nat) = 2 ^ n * 2 ^ (32 - n) := by
    rw [← Nat.pow_add, show n + (32 - n) = 32 by omega]
  have e2 : (2 : Nat) ^ (32 - w) = 2 ^ (32 - n) * 2 ^ (n - w) := by rw [← Nat.pow_add, show 32 - n + (n - w) = 32 - w by omega]
  rw [e1, Nat.mul_mod_mul_right, e2, ← Nat.div_div_eq_div_mul, Nat.mul_div_cancel _ (Nat.two_pow_pos _)]
theorem cast_top (x a b C : Nat) : (x : Int) * 2 ^ a % (C : Int) / 2 ^ b = ((x * 2 ^ a % C / 2 ^ b : Nat) : Int) := by
  push_cast
  rfl
theorem top_int (x n w : Nat) (hn : n ≤ 32) (hw : w ≤ n) : (x : Int) * 2 ^ (32 - n) % 4294967296 / 2 ^ (32 - w) = ((x % 2 ^ n / 2 ^ (n - w) : Nat) : Int) := by
  rw [← top_bits x n w hn hw]
  exact cast_top x (32 - n) (32 - w) 4294967296
theorem wrap_mask (n : Nat) (hn : n ≤ 62) : wrap64 (wrap64 ((2 : Int) ^ n) - 1) = ((2 ^ n - 1 : Nat) : Int) := by
  have h2 : 2 ^ n ≤ 2 ^ 62 := Nat.pow_le_pow_right (by decide) hn
  have h1 : 1 ≤ 2 ^ n := Nat.one_le_two_pow
  have e : ((2 : Int) ^ n) = ((2 ^ n : Nat) : Int) := by push_cast; rfl
  rw [e]
  unfold wrap64
  omega
theorem mask_int (x n w : Nat) (hx : x < 4294967296) (hn : n ≤ 32) : bits .and .i64 (x : Int) (wrap64 (wrap64 ((2 : Int) ^ n) - 1)) / 2 ^ (n - w) = ((x % 2 ^ n / 2 ^ (n - w) : Nat) : Int) := by
  rw [wrap_mask n (by omega), mask_i64 x n (by omega) (by omega)]
  push_cast
  rfl
end Go.Proofs.YthihfgjolioabaaDoor
