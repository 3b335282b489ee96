/-
  The forty-eight letters and their codes, as plain functions.
-/
import Derived.Lib.Bytealg
import Derived.Lib.IndexLaws
namespace Go.Proofs.YthihfgjolioabaaDoor

def lets : ByteArray := ⟨#[32, 114, 116, 111, 101, 97, 110, 105, 115, 109, 99, 121, 108, 103, 102, 119, 100, 118, 112, 98, 104, 120, 117, 113, 48, 49, 50, 51, 52, 53, 54, 55, 56, 57, 106, 45, 107, 46, 122, 47, 59, 39, 33, 43, 64, 42, 44, 63]⟩
theorem lets_size : lets.size = 48 := rfl
/-- The byte of a letter; 0 where there is none. -/
def letAt (k : Int) : Int := if 0 ≤ k ∧ k ≤ 47 then ((lets.data.toList.getD k.toNat 0).toNat : Int) else 0
/-- The number of a byte's letter; -1 where it is none. -/
def letOf (c : UInt8) : Int := Lib.indexByte lets.data.toList c
def widthOf (k : Int) : Int := if k < 0 then 0 else if k < 8 then 4 else if k < 16 then 5 else if k < 48 then 7 else 0
def bitsOf (k : Int) : Int := if k < 0 then 0 else if k < 8 then k else if k < 16 then k + 8 else if k < 48 then k + 80 else 0
theorem widthOf_nat {k : Nat} (h : k < 48) : ∃ d : Nat, widthOf (k : Int) = (d : Int) ∧ 4 ≤ d ∧ d ≤ 7 := by
  unfold widthOf
  by_cases h0 : k < 8
  · exact ⟨4, by rw [if_neg (by omega), if_pos (by omega)]; rfl, by omega, by omega⟩
  · by_cases h1 : k < 16
    · exact ⟨5, by rw [if_neg (by omega), if_neg (by omega), if_pos (by omega)]; rfl, by omega, by omega⟩
    · exact ⟨7, by rw [if_neg (by omega), if_neg (by omega), if_neg (by omega), if_pos (by omega)]; rfl, by omega, by omega⟩
theorem letAt_none {k : Int} (h : ¬ (0 ≤ k ∧ k ≤ 47)) : letAt k = 0 := by unfold letAt; rw [if_neg h]
theorem letAt_some {k : Nat} (h : k < 48) : letAt k = (lets[k]'(by rw [lets_size]; exact h)).toNat := by
  unfold letAt
  rw [if_pos (by omega)]
  have e : ((k : Int)).toNat = k := by omega
  rw [e, List.getD_eq_getElem?_getD, List.getElem?_eq_getElem (by show k < 48; exact h)]
  rfl
theorem letOf_range (c : UInt8) : -1 ≤ letOf c ∧ letOf c ≤ 47 := by
  have h := Lib.indexByte_ge lets.data.toList c
  refine ⟨h, ?_⟩
  rcases Int.lt_or_le (letOf c) 0 with h0 | h0
  · omega
  · obtain ⟨o, ho⟩ : ∃ o : Nat, letOf c = o := ⟨(letOf c).toNat, by omega⟩
    have h1 := (Lib.indexByte_some (show Lib.indexByte lets.data.toList c = o from ho)).1
    have h2 : o < lets.data.toList.length := (List.getElem?_eq_some_iff.1 h1).1
    have h3 : lets.data.toList.length = 48 := rfl
    omega
theorem letOf_first {c : UInt8} {k : Nat} (h : k < 48) (he : lets[k]'(by rw [lets_size]; exact h) = c) (hn : ∀ j (hj : j < k), lets[j]'(by rw [lets_size]; omega) ≠ c) : letOf c = k := by
  have hk : lets.data.toList[k]? = some c := by
    rw [List.getElem?_eq_getElem (by show k < 48; exact h)]
    exact congrArg some he
  rcases Int.lt_or_le (letOf c) 0 with h0 | h0
  · have : Lib.indexByte lets.data.toList c = -1 := by have := (letOf_range c).1; unfold letOf at *; omega
    exact absurd hk (Lib.indexByte_none this k)
  · obtain ⟨o, ho⟩ : ∃ o : Nat, letOf c = o := ⟨(letOf c).toNat, by omega⟩
    obtain ⟨h1, h2⟩ := Lib.indexByte_some (show Lib.indexByte lets.data.toList c = o from ho)
    have h3 : o < lets.data.toList.length := (List.getElem?_eq_some_iff.1 h1).1
    rw [ho]
    rcases Nat.lt_trichotomy o k with h4 | h4 | h4
    · exfalso
      rw [List.getElem?_eq_getElem h3] at h1
      exact hn o h4 (Option.some.inj h1)
    · rw [h4]
    · exact absurd hk (h2 k h4)
theorem letOf_none {c : UInt8} (hn : ∀ j (hj : j < 48), lets[j]'(by rw [lets_size]; exact hj) ≠ c) : letOf c = -1 := by
  rcases Int.lt_or_le (letOf c) 0 with h0 | h0
  · have := (letOf_range c).1; omega
  · obtain ⟨o, ho⟩ : ∃ o : Nat, letOf c = o := ⟨(letOf c).toNat, by omega⟩
    obtain ⟨h1, h2⟩ := Lib.indexByte_some (show Lib.indexByte lets.data.toList c = o from ho)
    have h3 : o < lets.data.toList.length := (List.getElem?_eq_some_iff.1 h1).1
    rw [List.getElem?_eq_getElem h3] at h1
    exact absurd (Option.some.inj h1) (hn o h3)
theorem letOf_zero {c : UInt8} (h : letOf c = 0) : c = 32 := by
  have h1 := (Lib.indexByte_some (show Lib.indexByte lets.data.toList c = ((0 : Nat) : Int) from h)).1
  exact (Option.some.inj h1).symm
theorem letOf_blank : letOf 32 = 0 := by decide
/-- Whether a byte is a name's. -/
def nameByte (c : UInt8) : Bool := decide (1 ≤ letOf c)
/-- Whether a text is a name. -/
def nameOk (s : ByteArray) : Bool := decide (1 ≤ s.size ∧ s.size ≤ 24 ∧ ∀ (i : Nat) (h : i < s.size), nameByte s[i] = true)
theorem nameOk_yes {s : ByteArray} (h0 : 1 ≤ s.size) (h1 : s.size ≤ 24) (h : ∀ (i : Nat) (h : i < s.size), nameByte s[i] = true) : nameOk s = true := decide_eq_true ⟨h0, h1, h⟩
theorem nameOk_no {s : ByteArray} {i : Nat} (hi : i < s.size) (h : nameByte s[i] = false) : nameOk s = false := decide_eq_false fun ⟨_, _, h2⟩ => by rw [h2 i hi] at h; cases h
theorem nameOk_size {s : ByteArray} (h : ¬ (1 ≤ s.size ∧ s.size ≤ 24)) : nameOk s = false := decide_eq_false fun ⟨h1, h2, _⟩ => h ⟨h1, h2⟩
end Go.Proofs.YthihfgjolioabaaDoor
