/-
  Steps as pairs: which are right, and their texts.
-/
import Derived.Test.YthihfgjolioabaaDoorDefsMath
import Derived.Test.YthihfgjolioabaaDoorPrimName
import Derived.Lib.ItoaNum
import Derived.Lib.ItoaLen
namespace Go.Proofs.YthihfgjolioabaaDoor
open Go.RowKit Go

/-- A step as it may be in code of m steps. -/
def okIn (m : Int) (o : Int × Int) : Bool :=
  if o.1 = 0 then decide (-2147483648 ≤ o.2 ∧ o.2 ≤ 2147483647)
  else if o.1 = 1 then decide (0 ≤ o.2 ∧ o.2 ≤ 23)
  else if o.1 = 2 ∨ o.1 = 3 ∨ o.1 = 4 ∨ o.1 = 5 ∨ o.1 = 7 then decide (0 ≤ o.2 ∧ o.2 < m)
  else if o.1 = 6 ∨ o.1 = 8 ∨ o.1 = 9 then decide (o.2 = 0) else false
/-- Code as it must be. -/
def codeOk (xs : List (Int × Int)) : Bool := decide (1 ≤ xs.length ∧ xs.length ≤ 1500) && (decide ((xs[xs.length - 1]?.getD (0, 0)).1 = 9) && xs.all (okIn xs.length))
theorem codeOk_len {xs : List (Int × Int)} (h : ¬ (1 ≤ xs.length ∧ xs.length ≤ 1500)) : codeOk xs = false := by unfold codeOk; rw [decide_eq_false h]; rfl
theorem codeOk_last {xs : List (Int × Int)} (h : (xs[xs.length - 1]?.getD (0, 0)).1 ≠ 9) : codeOk xs = false := by unfold codeOk; rw [decide_eq_false h]; simp
theorem codeOk_not {xs : List (Int × Int)} {i : Nat} (hi : i < xs.length) (h : okIn xs.length xs[i] = false) : codeOk xs = false := by unfold codeOk; rw [all_not hi h]; simp
theorem codeOk_all {xs : List (Int × Int)} (h1 : 1 ≤ xs.length ∧ xs.length ≤ 1500) (h2 : (xs[xs.length - 1]?.getD (0, 0)).1 = 9) (h : (xs.take xs.length).all (okIn xs.length) = true) : codeOk xs = true := by
  rw [List.take_length] at h
  unfold codeOk
  rw [h, decide_eq_true h1, decide_eq_true h2]
  rfl
theorem codeOk_parts {xs : List (Int × Int)} (h : codeOk xs = true) : (1 ≤ xs.length ∧ xs.length ≤ 1500) ∧ (xs[xs.length - 1]?.getD (0, 0)).1 = 9 ∧ ∀ o ∈ xs, okIn xs.length o = true := by
  unfold codeOk at h
  simp only [Bool.and_eq_true, decide_eq_true_eq, List.all_eq_true] at h
  exact ⟨h.1, h.2.1, h.2.2⟩
/-- The words of steps, by kind. -/
def insL : List ByteArray := [⟨#[108, 105, 116, 32]⟩, ⟨#[100, 111, 32]⟩, ⟨#[99, 97, 108, 108, 32]⟩, ⟨#[106, 117, 109, 112, 32]⟩, ⟨#[122, 101, 114, 111, 32]⟩, ⟨#[112, 111, 115, 32]⟩, ⟨#[102, 111, 114]⟩, ⟨#[110, 101, 120, 116, 32]⟩, ⟨#[114, 101, 116]⟩, ⟨#[101, 110, 100]⟩]
/-- The text of a step. -/
def insTx (o : Int × Int) : ByteArray :=
  if o.1 = 1 then (if 0 ≤ o.2 ∧ o.2 ≤ 23 then ⟨#[100, 111, 32]⟩ ++ primN o.2 else ⟨#[]⟩)
  else if o.1 = 6 then ⟨#[102, 111, 114]⟩ else if o.1 = 8 then ⟨#[114, 101, 116]⟩ else if o.1 = 9 then ⟨#[101, 110, 100]⟩
  else if 0 ≤ o.1 ∧ o.1 ≤ 7 then insL.getD o.1.toNat ⟨#[]⟩ ++ ⟨(Lib.itoa o.2).toArray⟩ else ⟨#[]⟩
theorem primN_size2 (k : Int) : (primN k).size ≤ 10 := by
  unfold primN
  split
  · obtain ⟨n, hn⟩ : ∃ n, k.toNat = n := ⟨_, rfl⟩
    rw [hn]
    have : n < 24 := by omega
    clear hn
    match n, this with
    | 0, _ | 1, _ | 2, _ | 3, _ | 4, _ | 5, _ | 6, _ | 7, _ | 8, _ | 9, _ | 10, _ | 11, _ | 12, _ | 13, _ | 14, _ | 15, _ | 16, _ | 17, _ | 18, _ | 19, _ | 20, _ | 21, _ | 22, _ | 23, _ => decide
    | n + 24, h => omega
  · decide
theorem insL_size (n : Nat) : (insL.getD n ⟨#[]⟩).size ≤ 5 := by
  match n with
  | 0 | 1 | 2 | 3 | 4 | 5 | 6 | 7 | 8 | 9 => decide
  | n + 10 => simp [insL]; decide
theorem insTx_size {o : Int × Int} (h0 : -9223372036854775808 ≤ o.2) (h1 : o.2 ≤ 9223372036854775807) : (insTx o).size ≤ 40 := by
  unfold insTx
  have h2 := Lib.itoa_length_le o.2 (by omega) (by omega)
  have h3 : ByteArray.size ⟨(Lib.itoa o.2).toArray⟩ ≤ 21 := by show (Lib.itoa o.2).toArray.size ≤ _; simp; omega
  have h4 := primN_size2 o.2
  have h5 := insL_size o.1.toNat
  split
  · split
    · rw [ByteArray.size_append]
      have : ByteArray.size ⟨#[100, 111, 32]⟩ = 3 := rfl
      omega
    · decide
  · split
    · decide
    · split
      · decide
      · split
        · decide
        · split
          · rw [ByteArray.size_append]; omega
          · decide
/-- A line of a listing. -/
def lineL (at_ : Nat) (o : Int × Int) : List UInt8 := Lib.itoa (at_ : Int) ++ 32 :: ((insTx o).data.toList ++ [10])
/-- The lines of a listing, from place a on. -/
def linesL : Nat → List (Int × Int) → List (List UInt8)
  | _, [] => []
  | a, o :: r => lineL a o :: linesL (a + 1) r
theorem linesL_len (a : Nat) (xs : List (Int × Int)) : (linesL a xs).length = xs.length := by
  induction xs generalizing a with
  | nil => rfl
  | cons o r ih => simp only [linesL, List.length_cons, ih]
theorem linesL_get {a i : Nat} {xs : List (Int × Int)} (h : i < xs.length) : (linesL a xs)[i]? = some (lineL (a + i) xs[i]) := by
  induction xs generalizing a i with
  | nil => simp at h
  | cons o r ih =>
    cases i with
    | zero => simp [linesL]
    | succ i =>
      have := ih (a := a + 1) (i := i) (by simpa using h)
      simp only [linesL, List.getElem?_cons_succ, List.getElem_cons_succ, this]
      rw [show a + 1 + i = a + (i + 1) by omega]
theorem linesL_take {a i : Nat} {xs : List (Int × Int)} (h : i < xs.length) : linesL a (xs.take (i + 1)) = linesL a (xs.take i) ++ [lineL (a + i) xs[i]] := by
  induction xs generalizing a i with
  | nil => simp at h
  | cons o r ih =>
    cases i with
    | zero => simp [linesL]
    | succ i =>
      have := ih (a := a + 1) (i := i) (by simpa using h)
      simp only [List.take_succ_cons, linesL, this, List.cons_append, List.getElem_cons_succ]
      rw [show a + 1 + i = a + (i + 1) by omega]
/-- What Listing tells. -/
def listTx (xs : List (Int × Int)) : ByteArray := if codeOk xs = true then ⟨(linesL 0 xs).flatten.toArray⟩ else ⟨#[]⟩
end Go.Proofs.YthihfgjolioabaaDoor
