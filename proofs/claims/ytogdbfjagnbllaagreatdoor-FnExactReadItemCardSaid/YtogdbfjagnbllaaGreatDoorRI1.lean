/-
  The forty-eight letters and their codes, as plain functions.
  What the walks of this seat import.
  Bits of numbers: masks and shifts as remainders and quotients.
  Which letter's code stands first in a text of bits, as a plain function.
  A letter comes back from its number and from its code, whatever bits stand behind it.
  Fields of names, and names of fields, as plain functions.
  Items and their cells, as plain functions: the cells of an item, the first item of cells, all items of cells.
  Plain mathematics of texts in base 16, no program.
  Plain mathematics of decimal texts, no program: how the digits of a number are gathered from the last one on.
  Plain mathematics of reading decimal texts, no program: which number a text of digits is, and that a number's decimal text is read back.
-/
import Derived.Lib.Bytealg
import Derived.Lib.IndexLaws
import Derived.Test.YtogdbfjagnbllaaGreatDoorProg
import Derived.WalkKit
import Derived.WalkSpells
import Derived.WalkSmall
import Derived.Lib.Hide
import Derived.LoopTactic
import Derived.BigQuiet
import Derived.Deep.QuietTactic
import Derived.WalkMore
import Derived.ScopeJumps
import Derived.Lib.ItoaNum
import Derived.Lib.ItoaLen
namespace Go.Proofs.YtogdbfjagnbllaaGreatDoor

def lets : ByteArray := ⟨#[32, 114, 116, 111, 101, 97, 110, 105, 115, 109, 99, 121, 108, 103, 102, 119, 100, 118, 112, 98, 104, 120, 117, 113, 48, 49, 50, 51, 52, 53, 54, 55, 56, 57, 106, 45, 107, 46, 122, 47, 59, 39, 33, 43, 64, 42, 44, 63]⟩
theorem lets_size : lets.size = 48 := rfl
/-- The byte of a letter; 0 where there is none. -/
def letAt (k : Int) : Int := if 0 ≤ k ∧ k ≤ 47 then ((lets.data.toList.getD k.toNat 0).toNat : Int) else 0
/-- The number of a byte's letter; -1 where it is none. -/
def letOf (c : UInt8) : Int := Lib.indexByte lets.data.toList c
def widthOf (k : Int) : Int := if k < 0 then 0 else if k < 8 then 4 else if k < 16 then 5 else if k < 48 then 7 else 0
def bitsOf (k : Int) : Int := if k < 0 then 0 else if k < 8 then k else if k < 16 then k + 8 else if k < 48 then k + 80 else 0
theorem widthOf_nat {k : Nat} (h : k < 48) : ∃ d : Nat, widthOf (k : Int) = (d : Int) ∧ 4 ≤ d ∧ d ≤ 7 := by
  unfold widthOf
  by_cases h0 : k < 8
  · exact ⟨4, by rw [if_neg (by omega), if_pos (by omega)]; rfl, by omega, by omega⟩
  · by_cases h1 : k < 16
    · exact ⟨5, by rw [if_neg (by omega), if_neg (by omega), if_pos (by omega)]; rfl, by omega, by omega⟩
    · exact ⟨7, by rw [if_neg (by omega), if_neg (by omega), if_neg (by omega), if_pos (by omega)]; rfl, by omega, by omega⟩
theorem letAt_none {k : Int} (h : ¬ (0 ≤ k ∧ k ≤ 47)) : letAt k = 0 := by unfold letAt; rw [if_neg h]
theorem letAt_some {k : Nat} (h : k < 48) : letAt k = (lets[k]'(by rw [lets_size]; exact h)).toNat := by
  unfold letAt
  rw [if_pos (by omega)]
  have e : ((k : Int)).toNat = k := by omega
  rw [e, List.getD_eq_getElem?_getD, List.getElem?_eq_getElem (by show k < 48; exact h)]
  rfl
theorem letOf_range (c : UInt8) : -1 ≤ letOf c ∧ letOf c ≤ 47 := by
  have h := Lib.indexByte_ge lets.data.toList c
  refine ⟨h, ?_⟩
  rcases Int.lt_or_le (letOf c) 0 with h0 | h0
  · omega
  · obtain ⟨o, ho⟩ : ∃ o : Nat, letOf c = o := ⟨(letOf c).toNat, by omega⟩
    have h1 := (Lib.indexByte_some (show Lib.indexByte lets.data.toList c = o from ho)).1
    have h2 : o < lets.data.toList.length := (List.getElem?_eq_some_iff.1 h1).1
    have h3 : lets.data.toList.length = 48 := rfl
    omega
theorem letOf_first {c : UInt8} {k : Nat} (h : k < 48) (he : lets[k]'(by rw [lets_size]; exact h) = c) (hn : ∀ j (hj : j < k), lets[j]'(by rw [lets_size]; omega) ≠ c) : letOf c = k := by
  have hk : lets.data.toList[k]? = some c := by
    rw [List.getElem?_eq_getElem (by show k < 48; exact h)]
    exact congrArg some he
  rcases Int.lt_or_le (letOf c) 0 with h0 | h0
  · have : Lib.indexByte lets.data.toList c = -1 := by have := (letOf_range c).1; unfold letOf at *; omega
    exact absurd hk (Lib.indexByte_none this k)
  · obtain ⟨o, ho⟩ : ∃ o : Nat, letOf c = o := ⟨(letOf c).toNat, by omega⟩
    obtain ⟨h1, h2⟩ := Lib.indexByte_some (show Lib.indexByte lets.data.toList c = o from ho)
    have h3 : o < lets.data.toList.length := (List.getElem?_eq_some_iff.1 h1).1
    rw [ho]
    rcases Nat.lt_trichotomy o k with h4 | h4 | h4
    · exfalso
      rw [List.getElem?_eq_getElem h3] at h1
      exact hn o h4 (Option.some.inj h1)
    · rw [h4]
    · exact absurd hk (h2 k h4)
theorem letOf_none {c : UInt8} (hn : ∀ j (hj : j < 48), lets[j]'(by rw [lets_size]; exact hj) ≠ c) : letOf c = -1 := by
  rcases Int.lt_or_le (letOf c) 0 with h0 | h0
  · have := (letOf_range c).1; omega
  · obtain ⟨o, ho⟩ : ∃ o : Nat, letOf c = o := ⟨(letOf c).toNat, by omega⟩
    obtain ⟨h1, h2⟩ := Lib.indexByte_some (show Lib.indexByte lets.data.toList c = o from ho)
    have h3 : o < lets.data.toList.length := (List.getElem?_eq_some_iff.1 h1).1
    rw [List.getElem?_eq_getElem h3] at h1
    exact absurd (Option.some.inj h1) (hn o h3)
theorem letOf_zero {c : UInt8} (h : letOf c = 0) : c = 32 := by
  have h1 := (Lib.indexByte_some (show Lib.indexByte lets.data.toList c = ((0 : Nat) : Int) from h)).1
  exact (Option.some.inj h1).symm
theorem letOf_blank : letOf 32 = 0 := by decide
/-- Whether a byte is a name's. -/
def nameByte (c : UInt8) : Bool := decide (1 ≤ letOf c)
/-- Whether a text is a name. -/
def nameOk (s : ByteArray) : Bool := decide (1 ≤ s.size ∧ s.size ≤ 24 ∧ ∀ (i : Nat) (h : i < s.size), nameByte s[i] = true)
theorem nameOk_yes {s : ByteArray} (h0 : 1 ≤ s.size) (h1 : s.size ≤ 24) (h : ∀ (i : Nat) (h : i < s.size), nameByte s[i] = true) : nameOk s = true := decide_eq_true ⟨h0, h1, h⟩
theorem nameOk_no {s : ByteArray} {i : Nat} (hi : i < s.size) (h : nameByte s[i] = false) : nameOk s = false := decide_eq_false fun ⟨_, _, h2⟩ => by rw [h2 i hi] at h; cases h
theorem nameOk_size {s : ByteArray} (h : ¬ (1 ≤ s.size ∧ s.size ≤ 24)) : nameOk s = false := decide_eq_false fun ⟨h1, h2, _⟩ => h ⟨h1, h2⟩
end Go.Proofs.YtogdbfjagnbllaaGreatDoor

namespace Go.Proofs.YtogdbfjagnbllaaGreatDoor
theorem u8_le (c : UInt8) : c.toNat ≤ 255 := by have := c.toNat_lt; omega
theorem u8_ne {a b : UInt8} (h : a ≠ b) : ((a.toNat : Int) == (b.toNat : Int)) = false := by
  have h2 : a.toNat ≠ b.toNat := fun e => h (UInt8.toNat.inj e)
  simp
  omega
theorem u8_eq {a b : UInt8} (h : a = b) : ((a.toNat : Int) == (b.toNat : Int)) = true := by simp [h]
end Go.Proofs.YtogdbfjagnbllaaGreatDoor

namespace Go.Proofs.YtogdbfjagnbllaaGreatDoor
open Go.RowKit Go

theorem bitsand_i64 (x y : Nat) (hx : x < 9223372036854775808) (hy : y < 9223372036854775808) : bits .and .i64 (x : Int) (y : Int) = ((x &&& y : Nat) : Int) := by
  have h : bits .and .i64 (x : Int) (y : Int) = IntKind.i64.wrap ((BitVec.ofInt 64 (x : Int) &&& BitVec.ofInt 64 (y : Int)).toNat : Int) := rfl
  have hle : x &&& y ≤ x := Nat.and_le_left
  rw [h, BitVec.toNat_and, BitVec.ofInt_natCast, BitVec.ofInt_natCast, BitVec.toNat_ofNat, BitVec.toNat_ofNat, Nat.mod_eq_of_lt (by omega), Nat.mod_eq_of_lt (by omega), IntKind.wrap_i64]
  omega
theorem bitsand_u32 (x y : Nat) (hx : x < 4294967296) (hy : y < 4294967296) : bits .and .u32 (x : Int) (y : Int) = ((x &&& y : Nat) : Int) := by
  have h : bits .and .u32 (x : Int) (y : Int) = IntKind.u32.wrap ((BitVec.ofInt 32 (x : Int) &&& BitVec.ofInt 32 (y : Int)).toNat : Int) := rfl
  have hle : x &&& y ≤ x := Nat.and_le_left
  rw [h, BitVec.toNat_and, BitVec.ofInt_natCast, BitVec.ofInt_natCast, BitVec.toNat_ofNat, BitVec.toNat_ofNat, Nat.mod_eq_of_lt (by omega), Nat.mod_eq_of_lt (by omega), IntKind.wrap_u32]
  omega
theorem bitsor_u32 (x y : Nat) (hx : x < 4294967296) (hy : y < 4294967296) : bits .or .u32 (x : Int) (y : Int) = ((x ||| y : Nat) : Int) := by
  have h : bits .or .u32 (x : Int) (y : Int) = IntKind.u32.wrap ((BitVec.ofInt 32 (x : Int) ||| BitVec.ofInt 32 (y : Int)).toNat : Int) := rfl
  have hle : x ||| y < 2 ^ 32 := Nat.or_lt_two_pow (by omega) (by omega)
  rw [h, BitVec.toNat_or, BitVec.ofInt_natCast, BitVec.ofInt_natCast, BitVec.toNat_ofNat, BitVec.toNat_ofNat, Nat.mod_eq_of_lt (by omega), Nat.mod_eq_of_lt (by omega), IntKind.wrap_u32]
  omega
/-- A mask of n ones. -/
theorem mask_i64 (x n : Nat) (hx : x < 9223372036854775808) (hn : n ≤ 62) : bits .and .i64 (x : Int) ((2 ^ n - 1 : Nat) : Int) = ((x % 2 ^ n : Nat) : Int) := by
  have h2 : 2 ^ n ≤ 2 ^ 62 := Nat.pow_le_pow_right (by decide) hn
  rw [bitsand_i64 x _ hx (by omega), Nat.and_two_pow_sub_one_eq_mod]
theorem mask_u32 (x n : Nat) (hx : x < 4294967296) (hn : n ≤ 32) : bits .and .u32 (x : Int) ((2 ^ n - 1 : Nat) : Int) = ((x % 2 ^ n : Nat) : Int) := by
  have h2 : 2 ^ n ≤ 2 ^ 32 := Nat.pow_le_pow_right (by decide) hn
  rw [bitsand_u32 x _ hx (by omega), Nat.and_two_pow_sub_one_eq_mod]
end Go.Proofs.YtogdbfjagnbllaaGreatDoor

namespace Go.Proofs.YtogdbfjagnbllaaGreatDoor
open Go.RowKit Go

/-- Whether the code of letter k stands first in the n lowest bits of x. -/
def codeAt (x n k : Nat) : Bool := decide ((widthOf k).toNat ≤ n ∧ (((x % 2 ^ n) / 2 ^ (n - (widthOf k).toNat) : Nat) : Int) = bitsOf k)
/-- The letter whose code stands first in the n lowest bits of x, and how many bits it has. -/
def decodeN (x n : Nat) : Int × Int := match (List.range 48).find? (codeAt x n) with
  | some k => ((k : Int), widthOf k)
  | none => (-1, 0)
def decode (x : Nat) (n : Int) : Int × Int := if 1 ≤ n ∧ n ≤ 32 then decodeN x n.toNat else (-1, 0)
theorem codeAt_iff {x n k d : Nat} {b : Int} (hd : widthOf (k : Int) = (d : Int)) (hb : bitsOf (k : Int) = b) : codeAt x n k = decide (d ≤ n ∧ ((x % 2 ^ n / 2 ^ (n - d) : Nat) : Int) = b) := by
  unfold codeAt
  rw [hd, hb]
  rfl
theorem codeAt_true {x n k d : Nat} {b t : Int} (hd : widthOf (k : Int) = (d : Int)) (hb : bitsOf (k : Int) = b) (h1 : d ≤ n) (ht : t = ((x % 2 ^ n / 2 ^ (n - d) : Nat) : Int)) (h2 : t = b) : codeAt x n k = true := by
  rw [codeAt_iff hd hb, ← ht]
  exact decide_eq_true ⟨h1, h2⟩
theorem codeAt_false {x n k d : Nat} {b t : Int} (hd : widthOf (k : Int) = (d : Int)) (hb : bitsOf (k : Int) = b) (ht : t = ((x % 2 ^ n / 2 ^ (n - d) : Nat) : Int)) (h2 : t ≠ b) : codeAt x n k = false := by
  rw [codeAt_iff hd hb, ← ht]
  exact decide_eq_false fun h => h2 h.2
theorem codeAt_short {x n k d : Nat} (hd : widthOf (k : Int) = (d : Int)) (h : ¬ d ≤ n) : codeAt x n k = false := by
  rw [codeAt_iff hd rfl]
  exact decide_eq_false fun h2 => h h2.1
theorem find_first {p : Nat → Bool} {m k : Nat} (hk : k < m) (h : p k = true) (hn : ∀ j, j < k → p j = false) : (List.range m).find? p = some k := by
  rw [List.find?_eq_some_iff_getElem]
  refine ⟨h, k, by simpa using hk, by simp, fun j hj => ?_⟩
  have h1 := hn j hj
  simp [h1]
theorem find_none {p : Nat → Bool} {m : Nat} (hn : ∀ j, j < m → p j = false) : (List.range m).find? p = none := by
  rw [List.find?_eq_none]
  intro x hx
  have h1 := hn x (by simpa using hx)
  simp [h1]
theorem decodeN_some {x n k : Nat} (hk : k < 48) (h : codeAt x n k = true) (hn : ∀ j, j < k → codeAt x n j = false) : decodeN x n = ((k : Int), widthOf k) := by
  unfold decodeN
  rw [find_first hk h hn]
theorem decodeN_none {x n : Nat} (hn : ∀ j, j < 48 → codeAt x n j = false) : decodeN x n = (-1, 0) := by
  unfold decodeN
  rw [find_none hn]
/-- The highest bits of a text that was pushed to the top are its first bits. -/
theorem top_bits (x n w : Nat) (hn : n ≤ 32) (hw : w ≤ n) : (x * 2 ^ (32 - n)) % 4294967296 / 2 ^ (32 - w) = (x % 2 ^ n) / 2 ^ (n - w) := by
  have e1 : (4294967296 : Nat) = 2 ^ n * 2 ^ (32 - n) := by
    rw [← Nat.pow_add, show n + (32 - n) = 32 by omega]
  have e2 : (2 : Nat) ^ (32 - w) = 2 ^ (32 - n) * 2 ^ (n - w) := by rw [← Nat.pow_add, show 32 - n + (n - w) = 32 - w by omega]
  rw [e1, Nat.mul_mod_mul_right, e2, ← Nat.div_div_eq_div_mul, Nat.mul_div_cancel _ (Nat.two_pow_pos _)]
theorem cast_top (x a b C : Nat) : (x : Int) * 2 ^ a % (C : Int) / 2 ^ b = ((x * 2 ^ a % C / 2 ^ b : Nat) : Int) := by
  push_cast
  rfl
theorem top_int (x n w : Nat) (hn : n ≤ 32) (hw : w ≤ n) : (x : Int) * 2 ^ (32 - n) % 4294967296 / 2 ^ (32 - w) = ((x % 2 ^ n / 2 ^ (n - w) : Nat) : Int) := by
  rw [← top_bits x n w hn hw]
  exact cast_top x (32 - n) (32 - w) 4294967296
theorem wrap_mask (n : Nat) (hn : n ≤ 62) : wrap64 (wrap64 ((2 : Int) ^ n) - 1) = ((2 ^ n - 1 : Nat) : Int) := by
  have h2 : 2 ^ n ≤ 2 ^ 62 := Nat.pow_le_pow_right (by decide) hn
  have h1 : 1 ≤ 2 ^ n := Nat.one_le_two_pow
  have e : ((2 : Int) ^ n) = ((2 ^ n : Nat) : Int) := by push_cast; rfl
  rw [e]
  unfold wrap64
  omega
theorem mask_int (x n w : Nat) (hx : x < 4294967296) (hn : n ≤ 32) : bits .and .i64 (x : Int) (wrap64 (wrap64 ((2 : Int) ^ n) - 1)) / 2 ^ (n - w) = ((x % 2 ^ n / 2 ^ (n - w) : Nat) : Int) := by
  rw [wrap_mask n (by omega), mask_i64 x n (by omega) (by omega)]
  push_cast
  rfl
end Go.Proofs.YtogdbfjagnbllaaGreatDoor

namespace Go.Proofs.YtogdbfjagnbllaaGreatDoor
open Go.RowKit Go

theorem back_all : ∀ k : Nat, k < 48 → letOf (UInt8.ofNat (letAt (k : Int)).toNat) = (k : Int) ∧ 0 ≤ letAt (k : Int) ∧ letAt (k : Int) ≤ 255 := by decide +kernel
theorem letAt_back {k : Nat} (h : k < 48) : ∃ c : UInt8, letAt (k : Int) = (c.toNat : Int) ∧ letOf c = (k : Int) := by
  obtain ⟨h1, h2, h3⟩ := back_all k h
  refine ⟨_, ?_, h1⟩
  rw [UInt8.toNat_ofNat_of_lt' (by show _ < 256; omega)]
  omega
def wN (k : Nat) : Nat := (widthOf (k : Int)).toNat
def bN (k : Nat) : Nat := (bitsOf (k : Int)).toNat
theorem code_apart : ∀ k : Nat, k < 48 → bN k < 2 ^ wN k ∧ ((bN k : Nat) : Int) = bitsOf (k : Int) ∧ ∀ j : Nat, j < k → wN j ≤ wN k ∧ ((bN k / 2 ^ (wN k - wN j) : Nat) : Int) ≠ bitsOf (j : Int) := by decide +kernel
theorem code_front (k rest r : Nat) (hk : k < 48) (hr : r < 2 ^ rest) : decodeN (bN k * 2 ^ rest + r) (wN k + rest) = ((k : Int), widthOf k) := by
  obtain ⟨h1, h2, h3⟩ := code_apart k hk
  have hlt : bN k * 2 ^ rest + r < 2 ^ (wN k + rest) := by
    rw [Nat.pow_add]
    calc bN k * 2 ^ rest + r < bN k * 2 ^ rest + 2 ^ rest := by omega
      _ = (bN k + 1) * 2 ^ rest := by rw [Nat.add_mul, Nat.one_mul]
      _ ≤ 2 ^ wN k * 2 ^ rest := Nat.mul_le_mul_right _ h1
  have hq : (bN k * 2 ^ rest + r) / 2 ^ rest = bN k := by
    rw [Nat.mul_comm, Nat.mul_add_div (Nat.two_pow_pos _), Nat.div_eq_of_lt hr]
    rfl
  refine decodeN_some hk ?_ fun j hj => ?_
  · unfold codeAt
    rw [Nat.mod_eq_of_lt hlt]
    refine decide_eq_true ⟨Nat.le_add_right _ _, ?_⟩
    rw [show wN k + rest - (widthOf (k : Int)).toNat = rest from Nat.add_sub_cancel_left _ _, hq, h2]
  · obtain ⟨h4, h5⟩ := h3 j hj
    unfold codeAt
    rw [Nat.mod_eq_of_lt hlt]
    refine decide_eq_false fun ⟨_, h6⟩ => h5 ?_
    rw [← h6, show wN k + rest - (widthOf (j : Int)).toNat = rest + (wN k - wN j) by show wN k + rest - wN j = _; omega, Nat.pow_add, ← Nat.div_div_eq_div_mul, hq]
theorem or_front (b rest r : Nat) (hr : r < 2 ^ rest) : (b * 2 ^ rest) ||| r = b * 2 ^ rest + r := by
  rw [Nat.mul_comm, ← Nat.two_pow_add_eq_or_of_lt hr]
theorem front_bits (b m rest : Nat) (hb : b ≤ 127) (hm : m < 4294967296) (hr : rest ≤ 20) :
    bits .or .u32 ((b : Int) * 2 ^ rest % 4294967296) (bits .and .u32 (m : Int) ((2 ^ rest - 1) % 4294967296)) = ((b * 2 ^ rest + m % 2 ^ rest : Nat) : Int) := by
  have h1 : 2 ^ rest ≤ 2 ^ 20 := Nat.pow_le_pow_right (by decide) hr
  have h0 : 1 ≤ 2 ^ rest := Nat.one_le_two_pow
  have h2 : b * 2 ^ rest ≤ 127 * 2 ^ 20 := Nat.mul_le_mul hb h1
  have e1 : (b : Int) * 2 ^ rest % 4294967296 = ((b * 2 ^ rest : Nat) : Int) := by
    have e : (b : Int) * 2 ^ rest = ((b * 2 ^ rest : Nat) : Int) := by push_cast; rfl
    rw [e]
    omega
  have e2 : ((2 : Int) ^ rest - 1) % 4294967296 = ((2 ^ rest - 1 : Nat) : Int) := by
    have e : (2 : Int) ^ rest = ((2 ^ rest : Nat) : Int) := by push_cast; rfl
    rw [e]
    omega
  have h3 : m % 2 ^ rest < 2 ^ rest := Nat.mod_lt _ h0
  rw [e1, e2, mask_u32 m rest hm (by omega), bitsor_u32 _ _ (by omega) (by omega), or_front b rest _ h3]
end Go.Proofs.YtogdbfjagnbllaaGreatDoor

namespace Go.Proofs.YtogdbfjagnbllaaGreatDoor
open Go.RowKit Go

def wB (c : UInt8) : Nat := (widthOf (letOf c)).toNat
def bB (c : UInt8) : Nat := (bitsOf (letOf c)).toNat
/-- The bits of as many first letters as fit in 'free' bits, from their highest on, and how many letters these are. -/
def fillN : Nat → List UInt8 → Nat × Nat
  | _, [] => (0, 0)
  | free, c :: r => if free < wB c then (0, 0) else (bB c * 2 ^ (free - wB c) + (fillN (free - wB c) r).1, (fillN (free - wB c) r).2 + 1)
theorem fillN_nil (free : Nat) : fillN free [] = (0, 0) := by simp [fillN]
theorem fillN_stop {free : Nat} {c : UInt8} {r : List UInt8} (h : free < wB c) : fillN free (c :: r) = (0, 0) := by simp [fillN, h]
theorem fillN_go {free : Nat} {c : UInt8} {r : List UInt8} (h : wB c ≤ free) : fillN free (c :: r) = (bB c * 2 ^ (free - wB c) + (fillN (free - wB c) r).1, (fillN (free - wB c) r).2 + 1) := by
  have h' : ¬ free < wB c := by omega
  simp [fillN, h']
theorem let_cases (c : UInt8) : letOf c = -1 ∨ ∃ k : Nat, k < 48 ∧ letOf c = (k : Int) := by
  have h := letOf_range c
  rcases Int.lt_or_le (letOf c) 0 with h0 | h0
  · exact Or.inl (by omega)
  · exact Or.inr ⟨(letOf c).toNat, by omega, by omega⟩
theorem wB_int (c : UInt8) : ((wB c : Nat) : Int) = widthOf (letOf c) := by
  unfold wB
  rcases let_cases c with h | ⟨k, hk, h⟩
  · rw [h]; rfl
  · rw [h]
    obtain ⟨d, hd, _, _⟩ := widthOf_nat hk
    rw [hd]; rfl
theorem wB_le (c : UInt8) : wB c ≤ 7 := by
  unfold wB
  rcases let_cases c with h | ⟨k, hk, h⟩
  · rw [h]; decide
  · rw [h]
    obtain ⟨d, hd, _, h2⟩ := widthOf_nat hk
    rw [hd]; exact h2
theorem bB_int (c : UInt8) : ((bB c : Nat) : Int) = bitsOf (letOf c) := by
  unfold bB
  rcases let_cases c with h | ⟨k, hk, h⟩
  · rw [h]; rfl
  · rw [h]; exact (code_apart k hk).2.1
theorem bB_lt (c : UInt8) : bB c < 2 ^ wB c := by
  unfold bB wB
  rcases let_cases c with h | ⟨k, hk, h⟩
  · rw [h]; decide
  · rw [h]; exact (code_apart k hk).1
theorem bB_le (c : UInt8) : bB c ≤ 127 := by
  have h1 := bB_lt c
  have h2 := wB_le c
  have h3 : 2 ^ wB c ≤ 2 ^ 7 := Nat.pow_le_pow_right (by decide) h2
  omega
theorem fillN_lt : ∀ (l : List UInt8) (free : Nat), (fillN free l).1 < 2 ^ free
  | [], free => by rw [fillN_nil]; exact Nat.two_pow_pos _
  | c :: r, free => by
    rcases Nat.lt_or_ge free (wB c) with h | h
    · rw [fillN_stop h]; exact Nat.two_pow_pos _
    · rw [fillN_go h]
      have h1 := fillN_lt r (free - wB c)
      have h2 := bB_lt c
      have e : (2 : Nat) ^ free = 2 ^ wB c * 2 ^ (free - wB c) := by rw [← Nat.pow_add, show wB c + (free - wB c) = free by omega]
      rw [e]
      calc bB c * 2 ^ (free - wB c) + (fillN (free - wB c) r).1 < bB c * 2 ^ (free - wB c) + 2 ^ (free - wB c) := by omega
        _ = (bB c + 1) * 2 ^ (free - wB c) := by rw [Nat.add_mul, Nat.one_mul]
        _ ≤ 2 ^ wB c * 2 ^ (free - wB c) := Nat.mul_le_mul_right _ h2
theorem fillN_len : ∀ (l : List UInt8) (free : Nat), (fillN free l).2 ≤ l.length
  | [], free => by rw [fillN_nil]; exact Nat.le_refl _
  | c :: r, free => by
    rcases Nat.lt_or_ge free (wB c) with h | h
    · rw [fillN_stop h]; exact Nat.zero_le _
    · rw [fillN_go h]
      exact Nat.succ_le_succ (fillN_len r (free - wB c))
theorem fillN_pos {l : List UInt8} (h : l ≠ []) : 1 ≤ (fillN 28 l).2 := by
  cases l with
  | nil => exact absurd rfl h
  | cons c r =>
    have := wB_le c
    rw [fillN_go (by omega)]
    exact Nat.succ_le_succ (Nat.zero_le _)
theorem fillN_take : ∀ (l : List UInt8) (free : Nat), fillN free (l.take (fillN free l).2) = fillN free l
  | [], free => by simp [fillN]
  | c :: r, free => by
    rcases Nat.lt_or_ge free (wB c) with h | h
    · rw [fillN_stop h]; simp [fillN]
    · rw [fillN_go h, List.take_succ_cons, fillN_go h, fillN_take r (free - wB c)]

def byteAt (k : Int) : UInt8 := UInt8.ofNat (letAt k).toNat
theorem letAt_of {c : UInt8} (h : 0 ≤ letOf c) : byteAt (letOf c) = c := by
  rcases let_cases c with h0 | ⟨k, hk, h0⟩
  · omega
  · have h1 := (Lib.indexByte_some (show Lib.indexByte lets.data.toList c = ((k : Nat) : Int) from h0)).1
    have h3 : lets.data.toList[k]? = some lets[k] := List.getElem?_eq_getElem (by show k < 48; exact hk)
    rw [h3] at h1
    have h2 := Option.some.inj h1
    unfold byteAt
    rw [h0, letAt_some hk]
    exact (show UInt8.ofNat (lets[k]'(by rw [lets_size]; exact hk)).toNat = _ from UInt8.ofNat_toNat).trans h2
theorem decode_mod (x y : Nat) (n : Nat) (h : x % 2 ^ n = y % 2 ^ n) : decode x n = decode y n := by
  unfold decode decodeN
  have e : codeAt x n = codeAt y n := by
    funext k
    unfold codeAt
    rw [h]
  simp only [Int.toNat_natCast, e]
theorem decode_zero (x n : Nat) (h : x % 2 ^ n = 0) : (decode x n).1 ≤ 0 := by
  unfold decode
  by_cases h0 : 1 ≤ (n : Int) ∧ (n : Int) ≤ 32
  · rw [if_pos h0]
    show (decodeN x n).1 ≤ 0
    rcases Nat.lt_or_ge n 4 with h1 | h1
    · rw [decodeN_none fun j hj => ?_]
      · decide
      · obtain ⟨d, hd, h2, _⟩ := widthOf_nat hj
        exact codeAt_short hd (by omega)
    · rw [decodeN_some (k := 0) (by decide) ?_ fun j hj => by omega]
      · decide
      · have e : widthOf ((0 : Nat) : Int) = ((4 : Nat) : Int) := rfl
        have e2 : bitsOf ((0 : Nat) : Int) = 0 := rfl
        refine codeAt_true (t := 0) e e2 h1 ?_ rfl
        rw [h, Nat.zero_div]; rfl
  · rw [if_neg h0]; show (-1 : Int) ≤ 0; decide
theorem decode_some {x n : Nat} (h : 0 ≤ (decode x n).1) : ∃ k d : Nat, k < 48 ∧ decode x n = ((k : Int), (d : Int)) ∧ widthOf (k : Int) = (d : Int) ∧ 4 ≤ d ∧ d ≤ 7 ∧ d ≤ n := by
  unfold decode at h ⊢
  by_cases h0 : 1 ≤ (n : Int) ∧ (n : Int) ≤ 32
  · rw [if_pos h0] at h ⊢
    show ∃ k d : Nat, k < 48 ∧ decodeN x n = ((k : Int), (d : Int)) ∧ _
    change 0 ≤ (decodeN x n).1 at h
    unfold decodeN at h ⊢
    cases hf : (List.range 48).find? (codeAt x n) with
    | none => rw [hf] at h; exact absurd h (by decide)
    | some k =>
      have hk : k < 48 := by
        have := List.mem_of_find?_eq_some hf
        simpa using this
      have hc := List.find?_some hf
      obtain ⟨d, hd, h4, h7⟩ := widthOf_nat hk
      refine ⟨k, d, hk, by simp only [hd], hd, h4, h7, ?_⟩
      rw [codeAt_iff hd rfl] at hc
      exact (of_decide_eq_true hc).1
  · rw [if_neg h0] at h; exact absurd h (by decide)

/-- The letters whose codes stand in the n lowest bits of f. -/
def unpN : Nat → Nat → Nat → List UInt8
  | 0, _, _ => []
  | k + 1, f, n => if (decode f n).1 ≤ 0 then [] else byteAt (decode f n).1 :: unpN k f (n - (decode f n).2.toNat)
theorem unpN_stop {k f n : Nat} (h : (decode f n).1 ≤ 0) : unpN k f n = [] := by
  cases k with
  | zero => rfl
  | succ k => simp [unpN, h]
theorem unpN_go {k f n : Nat} (h : ¬ (decode f n).1 ≤ 0) : unpN (k + 1) f n = byteAt (decode f n).1 :: unpN k f (n - (decode f n).2.toNat) := by
  simp [unpN, h]
def nameByteL (l : List UInt8) : Prop := ∀ c ∈ l, nameByte c = true
theorem unp_fill : ∀ (l : List UInt8) (k free F : Nat), free ≤ 28 → free ≤ k → nameByteL l → F % 2 ^ free = (fillN free l).1 → unpN k F free = l.take (fillN free l).2
  | [], k, free, F, h28, hk, hl, hF => by
    rw [fillN_nil] at hF ⊢
    rw [unpN_stop (decode_zero _ _ hF)]
    rfl
  | c :: r, k, free, F, h28, hk, hl, hF => by
    rcases Nat.lt_or_ge free (wB c) with h | h
    · rw [fillN_stop h] at hF ⊢
      rw [unpN_stop (decode_zero _ _ hF)]
      rfl
    · have hlt := fillN_lt r (free - wB c)
      have hall := fillN_lt (c :: r) free
      rw [fillN_go h] at hF hall ⊢
      have hc : 1 ≤ letOf c := of_decide_eq_true (hl c (by simp))
      rcases let_cases c with h0 | ⟨j, hj, h0⟩
      · omega
      · have ew : wB c = wN j := by unfold wB wN; rw [h0]
        have eb : bB c = bN j := by unfold bB bN; rw [h0]
        have hd4 : 4 ≤ wN j := by
          obtain ⟨d, hd, h4, _⟩ := widthOf_nat hj
          unfold wN; rw [hd]; exact h4
        have hcf := code_front j (free - wB c) (fillN (free - wB c) r).1 hj hlt
        rw [← eb, ← ew, show wB c + (free - wB c) = free by omega] at hcf
        have hdec : decode F free = ((j : Int), widthOf j) := by
          rw [decode_mod F (bB c * 2 ^ (free - wB c) + (fillN (free - wB c) r).1) free (by rw [hF, Nat.mod_eq_of_lt hall])]
          unfold decode
          rw [if_pos (by omega)]
          exact hcf
        obtain ⟨k', rfl⟩ : ∃ k', k = k' + 1 := ⟨k - 1, by omega⟩
        have hpos : ¬ (decode F free).1 ≤ 0 := by rw [hdec]; show ¬ (j : Int) ≤ 0; omega
        rw [unpN_go hpos, hdec, List.take_succ_cons]
        have e1 : byteAt ((j : Int)) = c := by rw [← h0]; exact letAt_of (by omega)
        show byteAt (j : Int) :: unpN k' F (free - wN j) = _
        rw [e1, ← ew]
        congr 1
        refine unp_fill r k' (free - wB c) F (by omega) (by omega) (fun x hx => hl x (by simp [hx])) ?_
        have hdvd : 2 ^ (free - wB c) ∣ 2 ^ free := Nat.pow_dvd_pow 2 (by omega)
        rw [← Nat.mod_mod_of_dvd F hdvd, hF, Nat.mul_add_mod_self_right, Nat.mod_eq_of_lt hlt]

def unpOne (f : Nat) : List UInt8 := if f < 2 ^ 28 then unpN 28 f 28 else []
theorem unpN_len : ∀ (k f n : Nat), (unpN k f n).length ≤ k
  | 0, f, n => Nat.le_refl _
  | k + 1, f, n => by
    by_cases h : (decode f n).1 ≤ 0
    · rw [unpN_stop h]; exact Nat.zero_le _
    · rw [unpN_go h]; exact Nat.succ_le_succ (unpN_len k f _)
theorem unpOne_len (f : Nat) : (unpOne f).length ≤ 28 := by
  unfold unpOne
  split
  · exact unpN_len 28 f 28
  · exact Nat.zero_le _
theorem unpOne_fill {l : List UInt8} (hl : nameByteL l) : unpOne (fillN 28 l).1 = l.take (fillN 28 l).2 := by
  have h := fillN_lt l 28
  unfold unpOne
  rw [if_pos h]
  exact unp_fill l 28 28 _ (Nat.le_refl _) (Nat.le_refl _) hl (Nat.mod_eq_of_lt h)

/-- The fields of a name's letters. -/
def packN : Nat → List UInt8 → List Nat
  | 0, _ => []
  | n + 1, l => if l = [] then [] else (fillN 28 l).1 :: packN n (l.drop (fillN 28 l).2)
theorem packN_nil (n : Nat) : packN n [] = [] := by cases n <;> simp [packN]
theorem packN_go {n : Nat} {l : List UInt8} (h : l ≠ []) : packN (n + 1) l = (fillN 28 l).1 :: packN n (l.drop (fillN 28 l).2) := by simp [packN, h]
theorem packN_fuel : ∀ (n m : Nat) (l : List UInt8), l.length ≤ n → l.length ≤ m → packN n l = packN m l
  | n, m, [], _, _ => by rw [packN_nil, packN_nil]
  | 0, m, c :: r, h, _ => by simp at h
  | n + 1, 0, c :: r, _, h => by simp at h
  | n + 1, m + 1, c :: r, h1, h2 => by
    have hp := fillN_pos (l := c :: r) (by simp)
    have hl : ((c :: r).drop (fillN 28 (c :: r)).2).length ≤ r.length := by rw [List.length_drop, List.length_cons]; omega
    rw [packN_go (by simp), packN_go (by simp), packN_fuel n m _ (by simp at h1; omega) (by simp at h2; omega)]
theorem packN_len : ∀ (n : Nat) (l : List UInt8), (packN n l).length ≤ l.length
  | n, [] => by rw [packN_nil]; exact Nat.le_refl _
  | 0, c :: r => Nat.zero_le _
  | n + 1, c :: r => by
    have hp := fillN_pos (l := c :: r) (by simp)
    have h := packN_len n ((c :: r).drop (fillN 28 (c :: r)).2)
    have hl : ((c :: r).drop (fillN 28 (c :: r)).2).length ≤ r.length := by rw [List.length_drop, List.length_cons]; omega
    rw [packN_go (by simp), List.length_cons, List.length_cons]
    omega
theorem packN_small : ∀ (n : Nat) (l : List UInt8), ∀ f ∈ packN n l, f < 2 ^ 28
  | 0, l => fun f h => absurd h List.not_mem_nil
  | n + 1, l => fun f h => by
    by_cases hl : l = []
    · rw [hl, packN_nil] at h; simp at h
    · rw [packN_go hl] at h
      rcases List.mem_cons.1 h with h | h
      · rw [h]; exact fillN_lt l 28
      · exact packN_small n _ f h
def packL (l : List UInt8) : List Nat := packN l.length l
theorem packL_go {l : List UInt8} (h : l ≠ []) : packL l = (fillN 28 l).1 :: packL (l.drop (fillN 28 l).2) := by
  have hp := fillN_pos h
  obtain ⟨m, hm⟩ : ∃ m, l.length = m + 1 := ⟨l.length - 1, by have := List.length_pos_iff.2 h; omega⟩
  unfold packL
  rw [hm, packN_go h, packN_fuel m _ _ (by rw [List.length_drop]; omega) (Nat.le_refl _)]
theorem packL_nil : packL [] = [] := rfl
theorem packL_len (l : List UInt8) : (packL l).length ≤ l.length := packN_len _ _
theorem packL_small (l : List UInt8) : ∀ f ∈ packL l, f < 2 ^ 28 := packN_small _ _

def nameL (l : List UInt8) : Bool := decide (1 ≤ l.length ∧ l.length ≤ 24 ∧ ∀ c ∈ l, nameByte c = true)
theorem nameOk_list (s : ByteArray) : nameOk s = nameL s.data.toList := by
  unfold nameOk nameL
  have e : s.data.toList.length = s.size := rfl
  rw [e]
  have : (∀ (i : Nat) (h : i < s.size), nameByte s[i] = true) ↔ ∀ c ∈ s.data.toList, nameByte c = true := by
    constructor
    · intro h c hc
      obtain ⟨i, hi, rfl⟩ := List.getElem_of_mem hc
      exact h i hi
    · intro h i hi
      have : s[i] ∈ s.data.toList := by
        have h2 : s.data.toList[i]'hi ∈ s.data.toList := List.getElem_mem _
        exact h2
      exact h _ this
  rw [Bool.eq_iff_iff]
  simp only [decide_eq_true_eq, this]
def packs (l : List UInt8) : List Nat := if nameL l = true then packL l else []
theorem packs_yes {l : List UInt8} (h : nameL l = true) : packs l = packL l := by unfold packs; rw [if_pos h]
theorem packs_no {l : List UInt8} (h : nameL l = false) : packs l = [] := by unfold packs; rw [if_neg (by rw [h]; decide)]
theorem packs_len (l : List UInt8) : (packs l).length ≤ l.length ∧ (packs l).length ≤ 24 := by
  cases h : nameL l with
  | false => rw [packs_no h]; exact ⟨Nat.zero_le _, by decide⟩
  | true =>
    rw [packs_yes h]
    have h1 := packL_len l
    have h2 := (of_decide_eq_true h).2.1
    exact ⟨h1, by omega⟩
theorem packs_small (l : List UInt8) : ∀ f ∈ packs l, f < 2 ^ 28 := by
  cases h : nameL l with
  | false => rw [packs_no h]; simp
  | true => rw [packs_yes h]; exact packL_small l
theorem packs_one (l : List UInt8) : (if nameL l = true then fillN 28 l else (0, 0)).1 < 2 ^ 28 := by
  split
  · exact fillN_lt l 28
  · exact Nat.two_pow_pos _
def pack1 (l : List UInt8) : Nat × Nat := if nameL l = true then fillN 28 l else (0, 0)
theorem pack1_yes {l : List UInt8} (h : nameL l = true) : pack1 l = fillN 28 l := by unfold pack1; rw [if_pos h]
theorem pack1_no {l : List UInt8} (h : nameL l = false) : pack1 l = (0, 0) := by unfold pack1; rw [if_neg (by rw [h]; decide)]

def unpAll : List Nat → List UInt8
  | [] => []
  | f :: r => unpOne f ++ unpAll r
theorem unpAll_append : ∀ (a b : List Nat), unpAll (a ++ b) = unpAll a ++ unpAll b
  | [], b => rfl
  | f :: r, b => by show unpOne f ++ unpAll (r ++ b) = (unpOne f ++ unpAll r) ++ unpAll b; rw [unpAll_append r b, List.append_assoc]
theorem unpAll_len : ∀ l : List Nat, (unpAll l).length ≤ 28 * l.length
  | [] => Nat.le_refl _
  | f :: r => by
    have h1 := unpOne_len f
    have h2 := unpAll_len r
    show (unpOne f ++ unpAll r).length ≤ 28 * (r.length + 1)
    rw [List.length_append]
    omega
theorem unpAll_packN : ∀ (n : Nat) (l : List UInt8), l.length ≤ n → nameByteL l → unpAll (packN n l) = l
  | n, [], _, _ => by rw [packN_nil]; rfl
  | 0, c :: r, h, _ => by simp at h
  | n + 1, c :: r, h, hl => by
    have hp := fillN_pos (l := c :: r) (by simp)
    have hd : ((c :: r).drop (fillN 28 (c :: r)).2).length ≤ r.length := by rw [List.length_drop, List.length_cons]; omega
    rw [packN_go (by simp)]
    show unpOne _ ++ unpAll _ = _
    rw [unpAll_packN n _ (by simp at h; omega) (fun x hx => hl x (List.mem_of_mem_drop hx)), unpOne_fill hl, List.take_append_drop]
/-- Whether a list is a name's fields. -/
def fieldsOk (l : List Nat) : Bool := decide (l.length ≤ 24 ∧ packs (unpAll l) = l) && nameL (unpAll l)
def unpacked (l : List Nat) : List UInt8 := if fieldsOk l = true then unpAll l else []
theorem nameL_bytes {l : List UInt8} (h : nameL l = true) : nameByteL l := (of_decide_eq_true h).2.2
theorem fieldsOk_packs {l : List UInt8} (h : nameL l = true) : fieldsOk (packs l) = true ∧ unpAll (packs l) = l := by
  have e : unpAll (packs l) = l := by
    rw [packs_yes h]
    exact unpAll_packN _ l (Nat.le_refl _) (nameL_bytes h)
  refine ⟨?_, e⟩
  unfold fieldsOk
  rw [e, h, Bool.and_true]
  exact decide_eq_true ⟨(packs_len l).2, rfl⟩
theorem nameL_take {l : List UInt8} (h : nameL l = true) : nameL (l.take (fillN 28 l).2) = true := by
  obtain ⟨h1, h2, h3⟩ := of_decide_eq_true h
  have hne : l ≠ [] := by intro e; rw [e] at h1; simp at h1
  have hp := fillN_pos hne
  refine decide_eq_true ⟨?_, ?_, fun c hc => h3 c (List.mem_of_mem_take hc)⟩
  · rw [List.length_take]; omega
  · rw [List.length_take]; omega
theorem fieldsOk_first {l : List UInt8} (h : nameL l = true) : fieldsOk [(fillN 28 l).1] = true := by
  have hl := nameL_bytes h
  have h2 := nameL_take h
  have hn2 : l.take (fillN 28 l).2 ≠ [] := by intro e; rw [e] at h2; exact absurd h2 (by decide)
  have e1 : unpAll [(fillN 28 l).1] = l.take (fillN 28 l).2 := by
    show unpOne _ ++ [] = _
    rw [List.append_nil, unpOne_fill hl]
  unfold fieldsOk
  rw [e1, h2, Bool.and_true]
  refine decide_eq_true ⟨show (1 : Nat) ≤ 24 by decide, ?_⟩
  rw [packs_yes h2, packL_go hn2, fillN_take]
  have : (l.take (fillN 28 l).2).drop (fillN 28 l).2 = [] := by rw [List.drop_take_self]
  rw [this, packL_nil]
theorem nameL_drop {l : List UInt8} (h : nameL l = true) (n : Nat) (hne : l.drop n ≠ []) : nameL (l.drop n) = true := by
  obtain ⟨h1, h2, h3⟩ := of_decide_eq_true h
  refine decide_eq_true ⟨List.length_pos_iff.2 hne, ?_, fun c hc => h3 c (List.mem_of_mem_drop hc)⟩
  rw [List.length_drop]; omega
theorem fieldsOk_each : ∀ (n : Nat) (l : List UInt8), nameL l = true → ∀ f ∈ packN n l, fieldsOk [f] = true
  | 0, l, _ => fun f h => absurd h List.not_mem_nil
  | n + 1, l, h => fun f hf => by
    by_cases hl : l = []
    · rw [hl, packN_nil] at hf; simp at hf
    · rw [packN_go hl] at hf
      rcases List.mem_cons.1 hf with hf | hf
      · rw [hf]; exact fieldsOk_first h
      · by_cases hd : l.drop (fillN 28 l).2 = []
        · rw [hd, packN_nil] at hf; simp at hf
        · exact fieldsOk_each n _ (nameL_drop h _ hd) f hf
theorem fieldsOk_mem {l : List UInt8} (h : nameL l = true) : ∀ f ∈ packs l, fieldsOk [f] = true := by
  rw [packs_yes h]
  exact fieldsOk_each _ l h
theorem packs_some {l : List UInt8} (h : nameL l = true) : packs l ≠ [] := by
  obtain ⟨h1, _, _⟩ := of_decide_eq_true h
  have hne : l ≠ [] := by intro e; rw [e] at h1; simp at h1
  rw [packs_yes h, packL_go hne]
  exact List.cons_ne_nil _ _
/-- A field that is a name's is what that name is packed into, and all of its letters fit. -/
theorem fieldsOk_one {f : Nat} (h : fieldsOk [f] = true) : pack1 (unpOne f) = (f, (unpOne f).length) := by
  unfold fieldsOk at h
  rw [Bool.and_eq_true] at h
  obtain ⟨h1, h2⟩ := h
  have e1 : unpAll [f] = unpOne f := List.append_nil _
  rw [e1] at h1 h2
  obtain ⟨_, h3⟩ := of_decide_eq_true h1
  rw [packs_yes h2] at h3
  have hne : unpOne f ≠ [] := by intro e; rw [e] at h2; exact absurd h2 (by decide)
  rw [packL_go hne] at h3
  injection h3 with h4 h5
  have h6 : (unpOne f).drop (fillN 28 (unpOne f)).2 = [] := by
    cases hd : (unpOne f).drop (fillN 28 (unpOne f)).2 with
    | nil => rfl
    | cons a b => rw [hd, packL_go (by simp)] at h5; exact absurd h5 (List.cons_ne_nil _ _)
  have h7 := fillN_len (unpOne f) 28
  have h8 : (unpOne f).length ≤ (fillN 28 (unpOne f)).2 := by simpa using h6
  rw [pack1_yes h2]
  exact Prod.ext h4 (by show (fillN 28 (unpOne f)).2 = _; omega)
theorem fieldsOk_back {l : List Nat} (h : fieldsOk l = true) : packs (unpAll l) = l := by
  unfold fieldsOk at h
  rw [Bool.and_eq_true] at h
  exact (of_decide_eq_true h.1).2
theorem fieldsOk_single (f : Nat) : fieldsOk [f] = decide (packs (unpOne f) = [f]) := by
  unfold fieldsOk
  have e1 : unpAll [f] = unpOne f := List.append_nil _
  rw [e1, Bool.eq_iff_iff, Bool.and_eq_true]
  constructor
  · intro ⟨h1, _⟩
    exact decide_eq_true (of_decide_eq_true h1).2
  · intro h
    have h2 := of_decide_eq_true h
    refine ⟨decide_eq_true ⟨show (1 : Nat) ≤ 24 by decide, h2⟩, ?_⟩
    cases hn : nameL (unpOne f) with
    | true => rfl
    | false => rw [packs_no hn] at h2; exact absurd h2.symm (List.cons_ne_nil _ _)
end Go.Proofs.YtogdbfjagnbllaaGreatDoor

namespace Go.Proofs.YtogdbfjagnbllaaGreatDoor
open Go

structure It where
  kind : Int
  name : ByteArray
  n : Int
  hex : Bool
  raw : Nat
  deriving DecidableEq
def noText : ByteArray := ⟨#[]⟩
def rawIt (c : Nat) : It := ⟨0, ⟨#[]⟩, 0, false, c⟩
/-- The 32 bits of a number with a sign. -/
def lowN (n : Int) : Nat := (n % 4294967296).toNat
/-- The number with a sign that 32 bits are. -/
def sgn (x : Nat) : Int := if x < 2147483648 then (x : Int) else (x : Int) - 4294967296
def tagW (k : Int) : Nat := if k = 1 then 1 else if k = 2 then 3 else if k = 3 then 4 else if k = 4 then 9 else if k = 5 then 10 else if k = 6 then 11 else 0
def kindT (t : Nat) : Int := if t = 1 then 1 else if t = 3 then 2 else if t = 4 then 3 else if t = 9 then 4 else if t = 10 then 5 else if t = 11 then 6 else -1
def wordCells (tag : Nat) : List Nat → List Nat
  | [] => []
  | f :: r => (f * 16 + tag) :: r.map (· * 16)
def wideN (n : Int) : Bool := decide (n < -67108864 ∨ 67108863 < n)
def hexN (h : Bool) : Nat := if h = true then 16 else 0
def numCells (n : Int) (h : Bool) (short long : Nat) : List Nat := if wideN n = true then [hexN h + long, lowN n] else [lowN n % 134217728 * 32 + hexN h + short]
def shortOf (k : Int) : Nat := if k = 7 then 8 else 6
def longOf (k : Int) : Nat := if k = 7 then 2 else 5
def varCells : List Nat → Int → List Nat
  | [f], n => [f * 16 + 12, lowN n]
  | _, _ => []
/-- The cells of an item. -/
def cellsOf (it : It) : List Nat :=
  if it.kind = 0 then (if it.name = noText ∧ it.n = 0 ∧ it.hex = false then [it.raw] else [])
  else if it.kind = 7 ∨ it.kind = 8 then (if it.name = noText ∧ it.raw = 0 then numCells it.n it.hex (shortOf it.kind) (longOf it.kind) else [])
  else if it.kind = 9 then (if it.hex = false ∧ it.raw = 0 then varCells (packs it.name.data.toList) it.n else [])
  else if 1 ≤ it.kind ∧ it.kind ≤ 6 then (if it.n = 0 ∧ it.hex = false ∧ it.raw = 0 then wordCells (tagW it.kind) (packs it.name.data.toList) else [])
  else []
/-- An item as memory can hold it. -/
structure ItIn (it : It) : Prop where
  k1 : -9223372036854775808 ≤ it.kind
  k2 : it.kind ≤ 9223372036854775807
  n1 : -2147483648 ≤ it.n
  n2 : it.n ≤ 2147483647
  r : it.raw < 4294967296
  s : it.name.size ≤ 4611686018427387904

theorem lowN_lt (n : Int) : lowN n < 4294967296 := by unfold lowN; omega
theorem lowN_sgn {x : Nat} (h : x < 4294967296) : lowN (sgn x) = x := by unfold lowN sgn; split <;> omega
theorem sgn_low {n : Int} (h1 : -2147483648 ≤ n) (h2 : n ≤ 2147483647) : sgn (lowN n) = n := by unfold lowN sgn; split <;> omega
theorem sgn_in {x : Nat} (h : x < 4294967296) : -2147483648 ≤ sgn x ∧ sgn x ≤ 2147483647 := by unfold sgn; split <;> omega
theorem sgn_shift {x : Nat} (h : x < 4294967296) : -67108864 ≤ sgn x / 32 ∧ sgn x / 32 ≤ 67108863 := by unfold sgn; split <;> omega
theorem sgn_shift_low {x : Nat} (h : x < 4294967296) : lowN (sgn x / 32) % 134217728 = x / 32 := by unfold lowN sgn; split <;> omega
theorem hexN_le (h : Bool) : hexN h ≤ 16 := by cases h <;> decide
theorem tagW_le (k : Int) : tagW k ≤ 15 := by unfold tagW; (repeat' split) <;> omega
theorem kindT_le (t : Nat) : kindT t ≤ 6 := by unfold kindT; (repeat' split) <;> omega
theorem kindT_tag {t : Nat} (h : 0 ≤ kindT t) : tagW (kindT t) = t ∧ 1 ≤ kindT t ∧ t < 16 ∧ t ≠ 0 ∧ t ≠ 8 ∧ t ≠ 6 ∧ t ≠ 2 ∧ t ≠ 5 ∧ t ≠ 12 := by
  unfold kindT at h ⊢
  (repeat' split at h) <;> simp_all [tagW]
theorem wordCells_len (t : Nat) (l : List Nat) : (wordCells t l).length = l.length := by cases l <;> simp [wordCells]
theorem varCells_len (l : List Nat) (n : Int) : (varCells l n).length ≤ 2 := by
  match l with
  | [] => exact Nat.zero_le _
  | [f] => exact Nat.le_refl _
  | _ :: _ :: _ => exact Nat.zero_le _
theorem numCells_len (n : Int) (h : Bool) (s l : Nat) : (numCells n h s l).length ≤ 2 := by unfold numCells; split <;> simp
theorem cellsOf_len (it : It) : (cellsOf it).length ≤ 24 := by
  unfold cellsOf
  have h1 := varCells_len (packs it.name.data.toList) it.n
  have h2 := numCells_len it.n it.hex (shortOf it.kind) (longOf it.kind)
  have h3 := wordCells_len (tagW it.kind) (packs it.name.data.toList)
  have h4 := (packs_len it.name.data.toList).2
  (repeat' split) <;> simp_all <;> omega
theorem wordCells_small {t : Nat} (ht : t ≤ 15) {l : List Nat} (h : ∀ f ∈ l, f < 2 ^ 28) : ∀ c ∈ wordCells t l, c < 4294967296 := by
  cases l with
  | nil => exact fun c hc => absurd hc List.not_mem_nil
  | cons f r =>
    intro c hc
    rcases List.mem_cons.1 hc with rfl | hc
    · have := h f (by simp); omega
    · obtain ⟨x, hx, rfl⟩ := List.mem_map.1 hc
      have := h x (by simp [hx]); omega
theorem varCells_small {l : List Nat} (h : ∀ f ∈ l, f < 2 ^ 28) (n : Int) : ∀ c ∈ varCells l n, c < 4294967296 := by
  match l with
  | [] => exact fun c hc => absurd hc List.not_mem_nil
  | [f] =>
    intro c hc
    have := h f (by simp)
    have := lowN_lt n
    simp [varCells] at hc
    omega
  | _ :: _ :: _ => exact fun c hc => absurd hc List.not_mem_nil
theorem numCells_small (n : Int) (h : Bool) (k : Int) : ∀ c ∈ numCells n h (shortOf k) (longOf k), c < 4294967296 := by
  have h1 := hexN_le h
  have h2 := lowN_lt n
  have h3 : shortOf k ≤ 8 := by unfold shortOf; split <;> omega
  have h4 : longOf k ≤ 5 := by unfold longOf; split <;> omega
  intro c hc
  unfold numCells at hc
  split at hc <;> simp at hc <;> omega
theorem cellsOf_small {it : It} (hr : it.raw < 4294967296) : ∀ c ∈ cellsOf it, c < 4294967296 := by
  have h1 := varCells_small (packs_small it.name.data.toList) it.n
  have h2 := numCells_small it.n it.hex it.kind
  have h3 := wordCells_small (tagW_le it.kind) (packs_small it.name.data.toList)
  unfold cellsOf
  (repeat' split) <;> first | assumption | (intro c hc; simp at hc; omega) | (intro c hc; exact absurd hc List.not_mem_nil)

theorem cellsOf_raw (c : Nat) : cellsOf (rawIt c) = [c] := by simp [cellsOf, rawIt, noText]

end Go.Proofs.YtogdbfjagnbllaaGreatDoor

namespace Go.Proofs.YtogdbfjagnbllaaGreatDoor

/-- A digit in base 16. -/
def hdig (i : Nat) : UInt8 := if i < 10 then UInt8.ofNat (48 + i) else UInt8.ofNat (87 + i)
/-- The digits of u in base 16, the first ahead; one nought for 0. -/
def hexDigits (u : Nat) : List UInt8 :=
  if _h : u < 16 then [hdig u] else hexDigits (u / 16) ++ [hdig (u % 16)]
termination_by u
decreasing_by omega
theorem hex_small {u : Nat} (h : u < 16) : hexDigits u = [hdig u] := by rw [hexDigits, dif_pos h]
theorem hex_big {u : Nat} (h : ¬ u < 16) : hexDigits u = hexDigits (u / 16) ++ [hdig (u % 16)] := by rw [hexDigits, dif_neg h]
theorem hex_len : ∀ (k u : Nat), u < 16 ^ (k + 1) → (hexDigits u).length ≤ k + 1
  | 0, u, h => by rw [hex_small (by simpa using h)]; simp
  | k + 1, u, h => by
    by_cases h1 : u < 16
    · rw [hex_small h1]; simp
    · rw [hex_big h1, List.length_append]
      have := hex_len k (u / 16) (Nat.div_lt_of_lt_mul (by rw [Nat.pow_succ] at h; omega))
      simp
      omega
theorem hex_len8 {u : Nat} (h : u < 4294967296) : (hexDigits u).length ≤ 8 := hex_len 7 u (by simp only [Nat.reduceAdd, Nat.reducePow]; omega)
theorem hex_ne (u : Nat) : hexDigits u ≠ [] := by
  by_cases h : u < 16
  · rw [hex_small h]; simp
  · rw [hex_big h]; simp
/-- The digits, none for 0. -/
def hh (u : Nat) : List UInt8 := if u = 0 then [] else hexDigits u
theorem hh_zero : hh 0 = [] := rfl
theorem hh_pos {u : Nat} (h : u ≠ 0) : hh u = hexDigits u := by unfold hh; rw [if_neg h]
theorem hh_step {u : Nat} (h : u ≠ 0) : hh u = hh (u / 16) ++ [hdig (u % 16)] := by
  rw [hh_pos h]
  by_cases h16 : u < 16
  · rw [hex_small h16, show u / 16 = 0 by omega, hh_zero, Nat.mod_eq_of_lt h16]; rfl
  · rw [hex_big h16, hh_pos (by omega)]
theorem hh_length {u : Nat} (h : u < 4294967296) : (hh u).length ≤ 8 := by
  by_cases h0 : u = 0
  · subst h0; rw [hh_zero]; simp
  · rw [hh_pos h0]; exact hex_len8 h
theorem hdig_lt {i : Nat} (h : i < 16) : (hdig i).toNat = if i < 10 then 48 + i else 87 + i := by
  unfold hdig
  split
  · rw [UInt8.toNat_ofNat']; omega
  · rw [UInt8.toNat_ofNat']; omega
/-- The number that digits in base 16 are. -/
def hval1 (c : UInt8) : Nat := if c.toNat ≤ 57 then c.toNat - 48 else c.toNat - 87
def HexB (c : UInt8) : Prop := (48 ≤ c.toNat ∧ c.toNat ≤ 57) ∨ (97 ≤ c.toNat ∧ c.toNat ≤ 102)
def hval (l : List UInt8) : Nat := l.foldl (fun a c => 16 * a + hval1 c) 0
theorem hval_snoc (l : List UInt8) (c : UInt8) : hval (l ++ [c]) = 16 * hval l + hval1 c := by unfold hval; simp [List.foldl_append]
theorem hval1_lt {c : UInt8} (h : HexB c) : hval1 c < 16 := by unfold HexB at h; unfold hval1; split <;> omega
theorem hdig_hex {i : Nat} (h : i < 16) : HexB (hdig i) ∧ hval1 (hdig i) = i := by
  have := hdig_lt h
  unfold HexB hval1
  split at this <;> rw [this]
  · exact ⟨.inl ⟨by omega, by omega⟩, by rw [if_pos (by omega)]; omega⟩
  · exact ⟨.inr ⟨by omega, by omega⟩, by rw [if_neg (by omega)]; omega⟩
theorem hex_all (u : Nat) : ∀ c ∈ hexDigits u, HexB c := by
  induction u using Nat.strongRecOn with
  | _ u ih =>
    intro c hc
    by_cases h : u < 16
    · rw [hex_small h] at hc
      simp only [List.mem_cons, List.not_mem_nil, or_false] at hc
      subst hc; exact (hdig_hex h).1
    · rw [hex_big h, List.mem_append] at hc
      rcases hc with hc | hc
      · exact ih (u / 16) (by omega) c hc
      · simp only [List.mem_cons, List.not_mem_nil, or_false] at hc
        subst hc; exact (hdig_hex (Nat.mod_lt _ (by decide))).1
theorem hval_hex (u : Nat) : hval (hexDigits u) = u := by
  induction u using Nat.strongRecOn with
  | _ u ih =>
    by_cases h : u < 16
    · rw [hex_small h]
      show 16 * 0 + hval1 (hdig u) = u
      rw [(hdig_hex h).2]; omega
    · rw [hex_big h, hval_snoc, ih (u / 16) (by omega), (hdig_hex (Nat.mod_lt _ (by decide))).2]
      omega
theorem hex_inj {a b : Nat} (h : hexDigits a = hexDigits b) : a = b := by
  have := congrArg hval h
  rwa [hval_hex, hval_hex] at this
def sixteen : ByteArray := ⟨#[48, 49, 50, 51, 52, 53, 54, 55, 56, 57, 97, 98, 99, 100, 101, 102]⟩
theorem sixteen_one_fin : ∀ i : Fin 16, sixteen.extract i.val (i.val + 1) = ⟨#[hdig i.val]⟩ := by decide +kernel
theorem sixteen_one {i : Nat} (h : i < 16) : sixteen.extract i (i + 1) = ⟨#[hdig i]⟩ := sixteen_one_fin ⟨i, h⟩
/-- What reading a text in base 16 answers. -/
def ReadsHex (l : List UInt8) (n : Nat) (b : Bool) : Prop :=
  (b = true ∧ n < 4294967296 ∧ l = hexDigits n) ∨ (b = false ∧ n = 0 ∧ ∀ m : Nat, m < 4294967296 → l ≠ hexDigits m)
theorem ReadsHex.unique {l : List UInt8} {n m : Nat} {a b : Bool} (h : ReadsHex l n a) (k : ReadsHex l m b) : n = m ∧ a = b := by
  rcases h with ⟨rfl, h1, h2⟩ | ⟨rfl, rfl, h2⟩ <;> rcases k with ⟨rfl, k1, k2⟩ | ⟨rfl, rfl, k2⟩
  · exact ⟨hex_inj (h2.symm.trans k2), rfl⟩
  · exact absurd h2 (k2 _ h1)
  · exact absurd k2 (h2 _ k1)
  · exact ⟨rfl, rfl⟩
end Go.Proofs.YtogdbfjagnbllaaGreatDoor

namespace Go.Proofs.YtogdbfjagnbllaaGreatDoor

/-- The decimal digits of u, none for 0. -/
def dd (u : Nat) : List UInt8 := if u = 0 then [] else Lib.decDigits u
theorem dd_zero : dd 0 = [] := rfl
theorem dd_pos {u : Nat} (h : u ≠ 0) : dd u = Lib.decDigits u := by unfold dd; rw [if_neg h]
theorem dd_step {u : Nat} (h : u ≠ 0) : dd u = dd (u / 10) ++ [UInt8.ofNat (48 + u % 10)] := by
  rw [dd_pos h, Lib.decDigits]
  by_cases h10 : u < 10
  · rw [dif_pos h10]
    have : u / 10 = 0 := by omega
    rw [this, dd_zero, Nat.mod_eq_of_lt h10]; rfl
  · rw [dif_neg h10, dd_pos (by omega)]
theorem dd_length {u : Nat} (h : u < 18446744073709551616) : (dd u).length ≤ 20 := by
  by_cases h0 : u = 0
  · subst h0; rw [dd_zero]; simp
  · rw [dd_pos h0, Lib.decDigits_length]; exact Lib.nDigits_le20 u h

def tenDigits : ByteArray := ⟨#[48, 49, 50, 51, 52, 53, 54, 55, 56, 57]⟩
theorem tenDigits_one_fin : ∀ i : Fin 10, tenDigits.extract i.val (i.val + 1) = ⟨#[UInt8.ofNat (48 + i.val)]⟩ := by decide +kernel
theorem tenDigits_one {i : Nat} (h : i < 10) : tenDigits.extract i (i + 1) = ⟨#[UInt8.ofNat (48 + i)]⟩ := tenDigits_one_fin ⟨i, h⟩
end Go.Proofs.YtogdbfjagnbllaaGreatDoor

namespace Go.Proofs.YtogdbfjagnbllaaGreatDoor

/-- The number that digits are, the first ahead. -/
def dval (l : List UInt8) : Nat := l.foldl (fun a c => 10 * a + (c.toNat - 48)) 0
theorem dval_snoc (l : List UInt8) (c : UInt8) : dval (l ++ [c]) = 10 * dval l + (c.toNat - 48) := by unfold dval; simp [List.foldl_append]
def DigB (c : UInt8) : Prop := 48 ≤ c.toNat ∧ c.toNat ≤ 57

theorem dig_byte {i : Nat} (h : i < 10) : (UInt8.ofNat (48 + i)).toNat = 48 + i := by
  rw [UInt8.toNat_ofNat']; omega
theorem decDigits_all (u : Nat) : ∀ c ∈ Lib.decDigits u, DigB c := by
  induction u using Nat.strongRecOn with
  | _ u ih =>
    intro c hc
    rw [Lib.decDigits] at hc
    split at hc
    · simp only [List.mem_cons, List.not_mem_nil, or_false] at hc
      subst hc
      unfold DigB
      rw [dig_byte (by omega)]
      omega
    · rw [List.mem_append] at hc
      rcases hc with hc | hc
      · exact ih (u / 10) (by omega) c hc
      · simp only [List.mem_cons, List.not_mem_nil, or_false] at hc
        subst hc
        unfold DigB
        rw [dig_byte (Nat.mod_lt _ (by decide))]
        omega
theorem dval_decDigits (u : Nat) : dval (Lib.decDigits u) = u := by
  induction u using Nat.strongRecOn with
  | _ u ih =>
    rw [Lib.decDigits]
    split
    · rename_i h
      show 10 * 0 + ((UInt8.ofNat (48 + u)).toNat - 48) = u
      rw [dig_byte h]; omega
    · rw [dval_snoc, ih (u / 10) (by omega), dig_byte (Nat.mod_lt _ (by decide))]
      omega
theorem decDigits_ne (u : Nat) : Lib.decDigits u ≠ [] := by
  intro h
  have := congrArg List.length h
  rw [Lib.decDigits_length] at this
  have := Lib.nDigits_pos u
  simp at *
  omega

/-- A text without the minus ahead. -/
def stp : List UInt8 → List UInt8
  | [] => []
  | c :: r => if c.toNat = 45 then r else c :: r
theorem stp_nil : stp [] = [] := rfl
theorem stp_take_succ {l : List UInt8} {k : Nat} (h : k < l.length) (hn : ¬ (k = 0 ∧ (l[k]).toNat = 45)) : stp (l.take (k + 1)) = stp (l.take k) ++ [l[k]] := by
  cases l with
  | nil => simp at h
  | cons c r =>
    cases k with
    | zero =>
      simp only [List.getElem_cons_zero, true_and] at hn
      simp [stp, hn]
    | succ k =>
      have e : r.take (k + 1) = r.take k ++ [r[k]'(by simpa using h)] := by rw [List.take_succ_eq_append_getElem (by simpa using h)]
      simp only [List.take_succ_cons, stp, List.getElem_cons_succ, e]
      split <;> simp
theorem stp_take_one {l : List UInt8} (h : 0 < l.length) (hn : (l[0]).toNat = 45) : stp (l.take 1) = [] := by
  cases l with
  | nil => simp at h
  | cons c r =>
    simp only [List.getElem_cons_zero] at hn
    simp [stp, hn]
theorem mem_stp {l : List UInt8} {k : Nat} (h : k < l.length) (hn : ¬ (k = 0 ∧ (l[k]).toNat = 45)) : l[k] ∈ stp l := by
  cases l with
  | nil => simp at h
  | cons c r =>
    cases k with
    | zero =>
      simp only [List.getElem_cons_zero, true_and] at hn
      simp [stp, hn]
    | succ k =>
      simp only [List.getElem_cons_succ, stp]
      split
      · exact List.getElem_mem _
      · exact List.mem_cons_of_mem _ (List.getElem_mem _)
theorem stp_itoa (m : Int) : stp (Lib.itoa m) = Lib.decDigits m.natAbs := by
  unfold Lib.itoa
  split
  · simp [stp]
  · rw [show m.toNat = m.natAbs by omega]
    have h := decDigits_all m.natAbs
    generalize Lib.decDigits m.natAbs = l at h
    cases l with
    | nil => rfl
    | cons c r =>
      have := h c (by simp)
      unfold DigB at this
      simp only [stp]
      rw [if_neg (by omega)]
theorem itoa_head {m : Int} (h : 0 < (Lib.itoa m).length) : ((Lib.itoa m)[0].toNat = 45) ↔ m < 0 := by
  by_cases hm : m < 0
  · simp [Lib.itoa, hm]
  · have e : Lib.itoa m = Lib.decDigits m.toNat := by simp [Lib.itoa, hm]
    have hd := decDigits_all m.toNat
    simp only [hm, iff_false]
    intro hc
    have hx := hd (Lib.itoa m)[0] (by rw [← e]; exact List.getElem_mem _)
    unfold DigB at hx
    omega
theorem itoa_ne (m : Int) : Lib.itoa m ≠ [] := by
  unfold Lib.itoa
  split
  · simp
  · exact decDigits_ne _
theorem itoa_inj {a b : Int} (h : Lib.itoa a = Lib.itoa b) : a = b := by
  have h1 := congrArg stp h
  rw [stp_itoa, stp_itoa] at h1
  have h2 := congrArg dval h1
  rw [dval_decDigits, dval_decDigits] at h2
  have la : 0 < (Lib.itoa a).length := List.length_pos_iff.2 (itoa_ne a)
  have lb : 0 < (Lib.itoa b).length := List.length_pos_iff.2 (itoa_ne b)
  have ha := itoa_head la
  have hb := itoa_head lb
  have : (a < 0) ↔ (b < 0) := by rw [← ha, ← hb]; simp only [h]
  omega
theorem nDigits_le : ∀ (k u : Nat), u < 10 ^ (k + 1) → Lib.nDigits u ≤ k + 1
  | 0, u, h => by rw [Lib.nDigits_small (by simpa using h)]; omega
  | k + 1, u, h => by
    by_cases h1 : u < 10
    · rw [Lib.nDigits_small h1]; omega
    · rw [Lib.nDigits_big h1]
      have := nDigits_le k (u / 10) (Nat.div_lt_of_lt_mul (by rw [Nat.pow_succ] at h; omega))
      omega
theorem itoa_len {m : Int} (h0 : -9999999999 ≤ m) (h1 : m ≤ 9999999999) : (Lib.itoa m).length ≤ 11 := by
  have hn : (Lib.decDigits m.natAbs).length ≤ 10 := by
    rw [Lib.decDigits_length]
    exact nDigits_le 9 _ (by simp only [Nat.reduceAdd, Nat.reducePow]; omega)
  unfold Lib.itoa
  split
  · simpa using hn
  · rw [show m.toNat = m.natAbs by omega]; omega

theorem read_key {l : List UInt8} {m z : Int} {v : Nat} (hd : dval (stp l) = v) (h0 : 0 < l.length) (hz : z = if l[0].toNat = 45 then -(v : Int) else v) (hm : l = Lib.itoa m) : m = z := by
  subst hm
  rw [stp_itoa, dval_decDigits] at hd
  have hh := itoa_head h0
  by_cases h45 : (Lib.itoa m)[0].toNat = 45
  · rw [if_pos h45] at hz
    have := hh.1 h45
    omega
  · rw [if_neg h45] at hz
    have : ¬ m < 0 := fun h => h45 (hh.2 h)
    omega

/-- What reading a text answers. -/
def ReadsDec (l : List UInt8) (n : Int) (b : Bool) : Prop :=
  (b = true ∧ -9999999999 ≤ n ∧ n ≤ 9999999999 ∧ l = Lib.itoa n) ∨ (b = false ∧ n = 0 ∧ ∀ m : Int, -9999999999 ≤ m → m ≤ 9999999999 → l ≠ Lib.itoa m)
theorem ReadsDec.unique {l : List UInt8} {n m : Int} {a b : Bool} (h : ReadsDec l n a) (k : ReadsDec l m b) : n = m ∧ a = b := by
  rcases h with ⟨rfl, h1, h2, h3⟩ | ⟨rfl, rfl, h3⟩ <;> rcases k with ⟨rfl, k1, k2, k3⟩ | ⟨rfl, rfl, k3⟩
  · exact ⟨itoa_inj (h3.symm.trans k3), rfl⟩
  · exact absurd h3 (k3 _ h1 h2)
  · exact absurd k3 (h3 _ k1 k2)
  · exact ⟨rfl, rfl⟩
end Go.Proofs.YtogdbfjagnbllaaGreatDoor
