/-
  Items and their cells, as plain functions: the cells of an item, the first item of cells, all items of cells.
-/
import Derived.Test.YtllhcdkbgknjdaaPackMath
namespace Go.Proofs.Ytllhcdkbgknjdaa
open Go

structure It where
  kind : Int
  name : ByteArray
  n : Int
  hex : Bool
  raw : Nat
  deriving DecidableEq
def noText : ByteArray := ⟨#[]⟩
def rawIt (c : Nat) : It := ⟨0, ⟨#[]⟩, 0, false, c⟩
/-- The 32 bits of a number with a sign. -/
def lowN (n : Int) : Nat := (n % 4294967296).toNat
/-- The number with a sign that 32 bits are. -/
def sgn (x : Nat) : Int := if x < 2147483648 then (x : Int) else (x : Int) - 4294967296
def tagW (k : Int) : Nat := if k = 1 then 1 else if k = 2 then 3 else if k = 3 then 4 else if k = 4 then 9 else if k = 5 then 10 else if k = 6 then 11 else 0
def kindT (t : Nat) : Int := if t = 1 then 1 else if t = 3 then 2 else if t = 4 then 3 else if t = 9 then 4 else if t = 10 then 5 else if t = 11 then 6 else -1
def wordCells (tag : Nat) : List Nat → List Nat
  | [] => []
  | f :: r => (f * 16 + tag) :: r.map (· * 16)
def wideN (n : Int) : Bool := decide (n < -67108864 ∨ 67108863 < n)
def hexN (h : Bool) : Nat := if h = true then 16 else 0
def numCells (n : Int) (h : Bool) (short long : Nat) : List Nat := if wideN n = true then [hexN h + long, lowN n] else [lowN n % 134217728 * 32 + hexN h + short]
def shortOf (k : Int) : Nat := if k = 7 then 8 else 6
def longOf (k : Int) : Nat := if k = 7 then 2 else 5
def varCells : List Nat → Int → List Nat
  | [f], n => [f * 16 + 12, lowN n]
  | _, _ => []
/-- The cells of an item. -/
def cellsOf (it : It) : List Nat :=
  if it.kind = 0 then (if it.name = noText ∧ it.n = 0 ∧ it.hex = false then [it.raw] else [])
  else if it.kind = 7 ∨ it.kind = 8 then (if it.name = noText ∧ it.raw = 0 then numCells it.n it.hex (shortOf it.kind) (longOf it.kind) else [])
  else if it.kind = 9 then (if it.hex = false ∧ it.raw = 0 then varCells (packs it.name.data.toList) it.n else [])
  else if 1 ≤ it.kind ∧ it.kind ≤ 6 then (if it.n = 0 ∧ it.hex = false ∧ it.raw = 0 then wordCells (tagW it.kind) (packs it.name.data.toList) else [])
  else []
/-- An item as memory can hold it. -/
structure ItIn (it : It) : Prop where
  k1 : -9223372036854775808 ≤ it.kind
  k2 : it.kind ≤ 9223372036854775807
  n1 : -2147483648 ≤ it.n
  n2 : it.n ≤ 2147483647
  r : it.raw < 4294967296
  s : it.name.size ≤ 4611686018427387904

theorem lowN_lt (n : Int) : lowN n < 4294967296 := by unfold lowN; omega
theorem lowN_sgn {x : Nat} (h : x < 4294967296) : lowN (sgn x) = x := by unfold lowN sgn; split <;> omega
theorem sgn_low {n : Int} (h1 : -2147483648 ≤ n) (h2 : n ≤ 2147483647) : sgn (lowN n) = n := by unfold lowN sgn; split <;> omega
theorem sgn_in {x : Nat} (h : x < 4294967296) : -2147483648 ≤ sgn x ∧ sgn x ≤ 2147483647 := by unfold sgn; split <;> omega
theorem sgn_shift {x : Nat} (h : x < 4294967296) : -67108864 ≤ sgn x / 32 ∧ sgn x / 32 ≤ 67108863 := by unfold sgn; split <;> omega
theorem sgn_shift_low {x : Nat} (h : x < 4294967296) : lowN (sgn x / 32) % 134217728 = x / 32 := by unfold lowN sgn; split <;> omega
theorem hexN_le (h : Bool) : hexN h ≤ 16 := by cases h <;> decide
theorem tagW_le (k : Int) : tagW k ≤ 15 := by unfold tagW; (repeat' split) <;> omega
theorem kindT_le (t : Nat) : kindT t ≤ 6 := by unfold kindT; (repeat' split) <;> omega
theorem kindT_tag {t : Nat} (h : 0 ≤ kindT t) : tagW (kindT t) = t ∧ 1 ≤ kindT t ∧ t < 16 ∧ t ≠ 0 ∧ t ≠ 8 ∧ t ≠ 6 ∧ t ≠ 2 ∧ t ≠ 5 ∧ t ≠ 12 := by
  unfold kindT at h ⊢
  (repeat' split at h) <;> simp_all [tagW]
theorem wordCells_len (t : Nat) (l : List Nat) : (wordCells t l).length = l.length := by cases l <;> simp [wordCells]
theorem varCells_len (l : List Nat) (n : Int) : (varCells l n).length ≤ 2 := by
  match l with
  | [] => exact Nat.zero_le _
  | [f] => exact Nat.le_refl _
  | _ :: _ :: _ => exact Nat.zero_le _
theorem numCells_len (n : Int) (h : Bool) (s l : Nat) : (numCells n h s l).length ≤ 2 := by unfold numCells; split <;> simp
theorem cellsOf_len (it : It) : (cellsOf it).length ≤ 24 := by
  unfold cellsOf
  have h1 := varCells_len (packs it.name.data.toList) it.n
  have h2 := numCells_len it.n it.hex (shortOf it.kind) (longOf it.kind)
  have h3 := wordCells_len (tagW it.kind) (packs it.name.data.toList)
  have h4 := (packs_len it.name.data.toList).2
  (repeat' split) <;> simp_all <;> omega
theorem wordCells_small {t : Nat} (ht : t ≤ 15) {l : List Nat} (h : ∀ f ∈ l, f < 2 ^ 28) : ∀ c ∈ wordCells t l, c < 4294967296 := by
  cases l with
  | nil => exact fun c hc => absurd hc List.not_mem_nil
  | cons f r =>
    intro c hc
    rcases List.mem_cons.1 hc with rfl | hc
    · have := h f (by simp); omega
    · obtain ⟨x, hx, rfl⟩ := List.mem_map.1 hc
      have := h x (by simp [hx]); omega
theorem varCells_small {l : List Nat} (h : ∀ f ∈ l, f < 2 ^ 28) (n : Int) : ∀ c ∈ varCells l n, c < 4294967296 := by
  match l with
  | [] => exact fun c hc => absurd hc List.not_mem_nil
  | [f] =>
    intro c hc
    have := h f (by simp)
    have := lowN_lt n
    simp [varCells] at hc
    omega
  | _ :: _ :: _ => exact fun c hc => absurd hc List.not_mem_nil
theorem numCells_small (n : Int) (h : Bool) (k : Int) : ∀ c ∈ numCells n h (shortOf k) (longOf k), c < 4294967296 := by
  have h1 := hexN_le h
  have h2 := lowN_lt n
  have h3 : shortOf k ≤ 8 := by unfold shortOf; split <;> omega
  have h4 : longOf k ≤ 5 := by unfold longOf; split <;> omega
  intro c hc
  unfold numCells at hc
  split at hc <;> simp at hc <;> omega
theorem cellsOf_small {it : It} (hr : it.raw < 4294967296) : ∀ c ∈ cellsOf it, c < 4294967296 := by
  have h1 := varCells_small (packs_small it.name.data.toList) it.n
  have h2 := numCells_small it.n it.hex it.kind
  have h3 := wordCells_small (tagW_le it.kind) (packs_small it.name.data.toList)
  unfold cellsOf
  (repeat' split) <;> first | assumption | (intro c hc; simp at hc; omega) | (intro c hc; exact absurd hc List.not_mem_nil)

theorem cellsOf_raw (c : Nat) : cellsOf (rawIt c) = [c] := by simp [cellsOf, rawIt, noText]

end Go.Proofs.Ytllhcdkbgknjdaa
