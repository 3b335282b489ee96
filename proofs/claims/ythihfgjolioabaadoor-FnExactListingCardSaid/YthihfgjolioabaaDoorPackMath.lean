/-
  Fields of names, and names of fields, as plain functions.
-/
import Derived.Test.YthihfgjolioabaaDoorDecodeMath
import Derived.Test.YthihfgjolioabaaDoorLettersMath
namespace Go.Proofs.YthihfgjolioabaaDoor
open Go.RowKit Go

def wB (c : UInt8) : Nat := (widthOf (letOf c)).toNat
def bB (c : UInt8) : Nat := (bitsOf (letOf c)).toNat
/-- The bits of as many first letters as fit in 'free' bits, from their highest on, and how many letters these are. -/
def fillN : Nat → List UInt8 → Nat × Nat
  | _, [] => (0, 0)
  | free, c :: r => if free < wB c then (0, 0) else (bB c * 2 ^ (free - wB c) + (fillN (free - wB c) r).1, (fillN (free - wB c) r).2 + 1)
theorem fillN_nil (free : Nat) : fillN free [] = (0, 0) := by simp [fillN]
theorem fillN_stop {free : Nat} {c : UInt8} {r : List UInt8} (h : free < wB c) : fillN free (c :: r) = (0, 0) := by simp [fillN, h]
theorem fillN_go {free : Nat} {c : UInt8} {r : List UInt8} (h : wB c ≤ free) : fillN free (c :: r) = (bB c * 2 ^ (free - wB c) + (fillN (free - wB c) r).1, (fillN (free - wB c) r).2 + 1) := by
  have h' : ¬ free < wB c := by omega
  simp [fillN, h']
theorem let_cases (c : UInt8) : letOf c = -1 ∨ ∃ k : Nat, k < 48 ∧ letOf c = (k : Int) := by
  have h := letOf_range c
  rcases Int.lt_or_le (letOf c) 0 with h0 | h0
  · exact Or.inl (by omega)
  · exact Or.inr ⟨(letOf c).toNat, by omega, by omega⟩
theorem wB_int (c : UInt8) : ((wB c : Nat) : Int) = widthOf (letOf c) := by
  unfold wB
  rcases let_cases c with h | ⟨k, hk, h⟩
  · rw [h]; rfl
  · rw [h]
    obtain ⟨d, hd, _, _⟩ := widthOf_nat hk
    rw [hd]; rfl
theorem wB_le (c : UInt8) : wB c ≤ 7 := by
  unfold wB
  rcases let_cases c with h | ⟨k, hk, h⟩
  · rw [h]; decide
  · rw [h]
    obtain ⟨d, hd, _, h2⟩ := widthOf_nat hk
    rw [hd]; exact h2
theorem bB_int (c : UInt8) : ((bB c : Nat) : Int) = bitsOf (letOf c) := by
  unfold bB
  rcases let_cases c with h | ⟨k, hk, h⟩
  · rw [h]; rfl
  · rw [h]; exact (code_apart k hk).2.1
theorem bB_lt (c : UInt8) : bB c < 2 ^ wB c := by
  unfold bB wB
  rcases let_cases c with h | ⟨k, hk, h⟩
  · rw [h]; decide
  · rw [h]; exact (code_apart k hk).1
theorem bB_le (c : UInt8) : bB c ≤ 127 := by
  have h1 := bB_lt c
  have h2 := wB_le c
  have h3 : 2 ^ wB c ≤ 2 ^ 7 := Nat.pow_le_pow_right (by decide) h2
  omega
theorem fillN_lt : ∀ (l : List UInt8) (free : Nat), (fillN free l).1 < 2 ^ free
  | [], free => by rw [fillN_nil]; exact Nat.two_pow_pos _
  | c :: r, free => by
    rcases Nat.lt_or_ge free (wB c) with h | h
    · rw [fillN_stop h]; exact Nat.two_pow_pos _
    · rw [fillN_go h]
      have h1 := fillN_lt r (free - wB c)
      have h2 := bB_lt c
      have e : (2 : Nat) ^ free = 2 ^ wB c * 2 ^ (free - wB c) := by rw [← Nat.pow_add, show wB c + (free - wB c) = free by omega]
      rw [e]
      calc bB c * 2 ^ (free - wB c) + (fillN (free - wB c) r).1 < bB c * 2 ^ (free - wB c) + 2 ^ (free - wB c) := by omega
        _ = (bB c + 1) * 2 ^ (free - wB c) := by rw [Nat.add_mul, Nat.one_mul]
        _ ≤ 2 ^ wB c * 2 ^ (free - wB c) := Nat.mul_le_mul_right _ h2
theorem fillN_len : ∀ (l : List UInt8) (free : Nat), (fillN free l).2 ≤ l.length
  | [], free => by rw [fillN_nil]; exact Nat.le_refl _
  | c :: r, free => by
    rcases Nat.lt_or_ge free (wB c) with h | h
    · rw [fillN_stop h]; exact Nat.zero_le _
    · rw [fillN_go h]
      exact Nat.succ_le_succ (fillN_len r (free - wB c))
theorem fillN_pos {l : List UInt8} (h : l ≠ []) : 1 ≤ (fillN 28 l).2 := by
  cases l with
  | nil => exact absurd rfl h
  | cons c r =>
    have := wB_le c
    rw [fillN_go (by omega)]
    exact Nat.succ_le_succ (Nat.zero_le _)
theorem fillN_take : ∀ (l : List UInt8) (free : Nat), fillN free (l.take (fillN free l).2) = fillN free l
  | [], free => by simp [fillN]
  | c :: r, free => by
    rcases Nat.lt_or_ge free (wB c) with h | h
    · rw [fillN_stop h]; simp [fillN]
    · rw [fillN_go h, List.take_succ_cons, fillN_go h, fillN_take r (free - wB c)]

def byteAt (k : Int) : UInt8 := UInt8.ofNat (letAt k).toNat
theorem letAt_of {c : UInt8} (h : 0 ≤ letOf c) : byteAt (letOf c) = c := by
  rcases let_cases c with h0 | ⟨k, hk, h0⟩
  · omega
  · have h1 := (Lib.indexByte_some (show Lib.indexByte lets.data.toList c = ((k : Nat) : Int) from h0)).1
    have h3 : lets.data.toList[k]? = some lets[k] := List.getElem?_eq_getElem (by show k < 48; exact hk)
    rw [h3] at h1
    have h2 := Option.some.inj h1
    unfold byteAt
    rw [h0, letAt_some hk]
    exact (show UInt8.ofNat (lets[k]'(by rw [lets_size]; exact hk)).toNat = _ from UInt8.ofNat_toNat).trans h2
theorem decode_mod (x y : Nat) (n : Nat) (h : x % 2 ^ n = y % 2 ^ n) : decode x n = decode y n := by
  unfold decode decodeN
  have e : codeAt x n = codeAt y n := by
    funext k
    unfold codeAt
    rw [h]
  simp only [Int.toNat_natCast, e]
theorem decode_zero (x n : Nat) (h : x % 2 ^ n = 0) : (decode x n).1 ≤ 0 := by
  unfold decode
  by_cases h0 : 1 ≤ (n : Int) ∧ (n : Int) ≤ 32
  · rw [if_pos h0]
    show (decodeN x n).1 ≤ 0
    rcases Nat.lt_or_ge n 4 with h1 | h1
    · rw [decodeN_none fun j hj => ?_]
      · decide
      · obtain ⟨d, hd, h2, _⟩ := widthOf_nat hj
        exact codeAt_short hd (by omega)
    · rw [decodeN_some (k := 0) (by decide) ?_ fun j hj => by omega]
      · decide
      · have e : widthOf ((0 : Nat) : Int) = ((4 : Nat) : Int) := rfl
        have e2 : bitsOf ((0 : Nat) : Int) = 0 := rfl
        refine codeAt_true (t := 0) e e2 h1 ?_ rfl
        rw [h, Nat.zero_div]; rfl
  · rw [if_neg h0]; show (-1 : Int) ≤ 0; decide
theorem decode_some {x n : Nat} (h : 0 ≤ (decode x n).1) : ∃ k d : Nat, k < 48 ∧ decode x n = ((k : Int), (d : Int)) ∧ widthOf (k : Int) = (d : Int) ∧ 4 ≤ d ∧ d ≤ 7 ∧ d ≤ n := by
  unfold decode at h ⊢
  by_cases h0 : 1 ≤ (n : Int) ∧ (n : Int) ≤ 32
  · rw [if_pos h0] at h ⊢
    show ∃ k d : Nat, k < 48 ∧ decodeN x n = ((k : Int), (d : Int)) ∧ _
    change 0 ≤ (decodeN x n).1 at h
    unfold decodeN at h ⊢
    cases hf : (List.range 48).find? (codeAt x n) with
    | none => rw [hf] at h; exact absurd h (by decide)
    | some k =>
      have hk : k < 48 := by
        have := List.mem_of_find?_eq_some hf
        simpa using this
      have hc := List.find?_some hf
      obtain ⟨d, hd, h4, h7⟩ := widthOf_nat hk
      refine ⟨k, d, hk, by simp only [hd], hd, h4, h7, ?_⟩
      rw [codeAt_iff hd rfl] at hc
      exact (of_decide_eq_true hc).1
  · rw [if_neg h0] at h; exact absurd h (by decide)

/-- The letters whose codes stand in the n lowest bits of f. -/
def unpN : Nat → Nat → Nat → List UInt8
  | 0, _, _ => []
  | k + 1, f, n => if (decode f n).1 ≤ 0 then [] else byteAt (decode f n).1 :: unpN k f (n - (decode f n).2.toNat)
theorem unpN_stop {k f n : Nat} (h : (decode f n).1 ≤ 0) : unpN k f n = [] := by
  cases k with
  | zero => rfl
  | succ k => simp [unpN, h]
theorem unpN_go {k f n : Nat} (h : ¬ (decode f n).1 ≤ 0) : unpN (k + 1) f n = byteAt (decode f n).1 :: unpN k f (n - (decode f n).2.toNat) := by
  simp [unpN, h]
def nameByteL (l : List UInt8) : Prop := ∀ c ∈ l, nameByte c = true
theorem unp_fill : ∀ (l : List UInt8) (k free F : Nat), free ≤ 28 → free ≤ k → nameByteL l → F % 2 ^ free = (fillN free l).1 → unpN k F free = l.take (fillN free l).2
  | [], k, free, F, h28, hk, hl, hF => by
    rw [fillN_nil] at hF ⊢
    rw [unpN_stop (decode_zero _ _ hF)]
    rfl
  | c :: r, k, free, F, h28, hk, hl, hF => by
    rcases Nat.lt_or_ge free (wB c) with h | h
    · rw [fillN_stop h] at hF ⊢
      rw [unpN_stop (decode_zero _ _ hF)]
      rfl
    · have hlt := fillN_lt r (free - wB c)
      have hall := fillN_lt (c :: r) free
      rw [fillN_go h] at hF hall ⊢
      have hc : 1 ≤ letOf c := of_decide_eq_true (hl c (by simp))
      rcases let_cases c with h0 | ⟨j, hj, h0⟩
      · omega
      · have ew : wB c = wN j := by unfold wB wN; rw [h0]
        have eb : bB c = bN j := by unfold bB bN; rw [h0]
        have hd4 : 4 ≤ wN j := by
          obtain ⟨d, hd, h4, _⟩ := widthOf_nat hj
          unfold wN; rw [hd]; exact h4
        have hcf := code_front j (free - wB c) (fillN (free - wB c) r).1 hj hlt
        rw [← eb, ← ew, show wB c + (free - wB c) = free by omega] at hcf
        have hdec : decode F free = ((j : Int), widthOf j) := by
          rw [decode_mod F (bB c * 2 ^ (free - wB c) + (fillN (free - wB c) r).1) free (by rw [hF, Nat.mod_eq_of_lt hall])]
          unfold decode
          rw [if_pos (by omega)]
          exact hcf
        obtain ⟨k', rfl⟩ : ∃ k', k = k' + 1 := ⟨k - 1, by omega⟩
        have hpos : ¬ (decode F free).1 ≤ 0 := by rw [hdec]; show ¬ (j : Int) ≤ 0; omega
        rw [unpN_go hpos, hdec, List.take_succ_cons]
        have e1 : byteAt ((j : Int)) = c := by rw [← h0]; exact letAt_of (by omega)
        show byteAt (j : Int) :: unpN k' F (free - wN j) = _
        rw [e1, ← ew]
        congr 1
        refine unp_fill r k' (free - wB c) F (by omega) (by omega) (fun x hx => hl x (by simp [hx])) ?_
        have hdvd : 2 ^ (free - wB c) ∣ 2 ^ free := Nat.pow_dvd_pow 2 (by omega)
        rw [← Nat.mod_mod_of_dvd F hdvd, hF, Nat.mul_add_mod_self_right, Nat.mod_eq_of_lt hlt]

def unpOne (f : Nat) : List UInt8 := if f < 2 ^ 28 then unpN 28 f 28 else []
theorem unpN_len : ∀ (k f n : Nat), (unpN k f n).length ≤ k
  | 0, f, n => Nat.le_refl _
  | k + 1, f, n => by
    by_cases h : (decode f n).1 ≤ 0
    · rw [unpN_stop h]; exact Nat.zero_le _
    · rw [unpN_go h]; exact Nat.succ_le_succ (unpN_len k f _)
theorem unpOne_len (f : Nat) : (unpOne f).length ≤ 28 := by
  unfold unpOne
  split
  · exact unpN_len 28 f 28
  · exact Nat.zero_le _
theorem unpOne_fill {l : List UInt8} (hl : nameByteL l) : unpOne (fillN 28 l).1 = l.take (fillN 28 l).2 := by
  have h := fillN_lt l 28
  unfold unpOne
  rw [if_pos h]
  exact unp_fill l 28 28 _ (Nat.le_refl _) (Nat.le_refl _) hl (Nat.mod_eq_of_lt h)

/-- The fields of a name's letters. -/
def packN : Nat → List UInt8 → List Nat
  | 0, _ => []
  | n + 1, l => if l = [] then [] else (fillN 28 l).1 :: packN n (l.drop (fillN 28 l).2)
theorem packN_nil (n : Nat) : packN n [] = [] := by cases n <;> simp [packN]
theorem packN_go {n : Nat} {l : List UInt8} (h : l ≠ []) : packN (n + 1) l = (fillN 28 l).1 :: packN n (l.drop (fillN 28 l).2) := by simp [packN, h]
theorem packN_fuel : ∀ (n m : Nat) (l : List UInt8), l.length ≤ n → l.length ≤ m → packN n l = packN m l
  | n, m, [], _, _ => by rw [packN_nil, packN_nil]
  | 0, m, c :: r, h, _ => by simp at h
  | n + 1, 0, c :: r, _, h => by simp at h
  | n + 1, m + 1, c :: r, h1, h2 => by
    have hp := fillN_pos (l := c :: r) (by simp)
    have hl : ((c :: r).drop (fillN 28 (c :: r)).2).length ≤ r.length := by rw [List.length_drop, List.length_cons]; omega
    rw [packN_go (by simp), packN_go (by simp), packN_fuel n m _ (by simp at h1; omega) (by simp at h2; omega)]
theorem packN_len : ∀ (n : Nat) (l : List UInt8), (packN n l).length ≤ l.length
  | n, [] => by rw [packN_nil]; exact Nat.le_refl _
  | 0, c :: r => Nat.zero_le _
  | n + 1, c :: r => by
    have hp := fillN_pos (l := c :: r) (by simp)
    have h := packN_len n ((c :: r).drop (fillN 28 (c :: r)).2)
    have hl : ((c :: r).drop (fillN 28 (c :: r)).2).length ≤ r.length := by rw [List.length_drop, List.length_cons]; omega
    rw [packN_go (by simp), List.length_cons, List.length_cons]
    omega
theorem packN_small : ∀ (n : Nat) (l : List UInt8), ∀ f ∈ packN n l, f < 2 ^ 28
  | 0, l => fun f h => absurd h List.not_mem_nil
  | n + 1, l => fun f h => by
    by_cases hl : l = []
    · rw [hl, packN_nil] at h; simp at h
    · rw [packN_go hl] at h
      rcases List.mem_cons.1 h with h | h
      · rw [h]; exact fillN_lt l 28
      · exact packN_small n _ f h
def packL (l : List UInt8) : List Nat := packN l.length l
theorem packL_go {l : List UInt8} (h : l ≠ []) : packL l = (fillN 28 l).1 :: packL (l.drop (fillN 28 l).2) := by
  have hp := fillN_pos h
  obtain ⟨m, hm⟩ : ∃ m, l.length = m + 1 := ⟨l.length - 1, by have := List.length_pos_iff.2 h; omega⟩
  unfold packL
  rw [hm, packN_go h, packN_fuel m _ _ (by rw [List.length_drop]; omega) (Nat.le_refl _)]
theorem packL_nil : packL [] = [] := rfl
theorem packL_len (l : List UInt8) : (packL l).length ≤ l.length := packN_len _ _
theorem packL_small (l : List UInt8) : ∀ f ∈ packL l, f < 2 ^ 28 := packN_small _ _

def nameL (l : List UInt8) : Bool := decide (1 ≤ l.length ∧ l.length ≤ 24 ∧ ∀ c ∈ l, nameByte c = true)
theorem nameOk_list (s : ByteArray) : nameOk s = nameL s.data.toList := by
  unfold nameOk nameL
  have e : s.data.toList.length = s.size := rfl
  rw [e]
  have : (∀ (i : Nat) (h : i < s.size), nameByte s[i] = true) ↔ ∀ c ∈ s.data.toList, nameByte c = true := by
    constructor
    · intro h c hc
      obtain ⟨i, hi, rfl⟩ := List.getElem_of_mem hc
      exact h i hi
    · intro h i hi
      have : s[i] ∈ s.data.toList := by
        have h2 : s.data.toList[i]'hi ∈ s.data.toList := List.getElem_mem _
        exact h2
      exact h _ this
  rw [Bool.eq_iff_iff]
  simp only [decide_eq_true_eq, this]
def packs (l : List UInt8) : List Nat := if nameL l = true then packL l else []
theorem packs_yes {l : List UInt8} (h : nameL l = true) : packs l = packL l := by unfold packs; rw [if_pos h]
theorem packs_no {l : List UInt8} (h : nameL l = false) : packs l = [] := by unfold packs; rw [if_neg (by rw [h]; decide)]
theorem packs_len (l : List UInt8) : (packs l).length ≤ l.length ∧ (packs l).length ≤ 24 := by
  cases h : nameL l with
  | false => rw [packs_no h]; exact ⟨Nat.zero_le _, by decide⟩
  | true =>
    rw [packs_yes h]
    have h1 := packL_len l
    have h2 := (of_decide_eq_true h).2.1
    exact ⟨h1, by omega⟩
theorem packs_small (l : List UInt8) : ∀ f ∈ packs l, f < 2 ^ 28 := by
  cases h : nameL l with
  | false => rw [packs_no h]; simp
  | true => rw [packs_yes h]; exact packL_small l
theorem packs_one (l : List UInt8) : (if nameL l = true then fillN 28 l else (0, 0)).1 < 2 ^ 28 := by
  split
  · exact fillN_lt l 28
  · exact Nat.two_pow_pos _
def pack1 (l : List UInt8) : Nat × Nat := if nameL l = true then fillN 28 l else (0, 0)
theorem pack1_yes {l : List UInt8} (h : nameL l = true) : pack1 l = fillN 28 l := by unfold pack1; rw [if_pos h]
theorem pack1_no {l : List UInt8} (h : nameL l = false) : pack1 l = (0, 0) := by unfold pack1; rw [if_neg (by rw [h]; decide)]

def unpAll : List Nat → List UInt8
  | [] => []
  | f :: r => unpOne f ++ unpAll r
theorem unpAll_append : ∀ (a b : List Nat), unpAll (a ++ b) = unpAll a ++ unpAll b
  | [], b => rfl
  | f :: r, b => by show unpOne f ++ unpAll (r ++ b) = (unpOne f ++ unpAll r) ++ unpAll b; rw [unpAll_append r b, List.append_assoc]
theorem unpAll_len : ∀ l : List Nat, (unpAll l).length ≤ 28 * l.length
  | [] => Nat.le_refl _
  | f :: r => by
    have h1 := unpOne_len f
    have h2 := unpAll_len r
    show (unpOne f ++ unpAll r).length ≤ 28 * (r.length + 1)
    rw [List.length_append]
    omega
theorem unpAll_packN : ∀ (n : Nat) (l : List UInt8), l.length ≤ n → nameByteL l → unpAll (packN n l) = l
  | n, [], _, _ => by rw [packN_nil]; rfl
  | 0, c :: r, h, _ => by simp at h
  | n + 1, c :: r, h, hl => by
    have hp := fillN_pos (l := c :: r) (by simp)
    have hd : ((c :: r).drop (fillN 28 (c :: r)).2).length ≤ r.length := by rw [List.length_drop, List.length_cons]; omega
    rw [packN_go (by simp)]
    show unpOne _ ++ unpAll _ = _
    rw [unpAll_packN n _ (by simp at h; omega) (fun x hx => hl x (List.mem_of_mem_drop hx)), unpOne_fill hl, List.take_append_drop]
/-- Whether a list is a name's fields. -/
def fieldsOk (l : List Nat) : Bool := decide (l.length ≤ 24 ∧ packs (unpAll l) = l) && nameL (unpAll l)
def unpacked (l : List Nat) : List UInt8 := if fieldsOk l = true then unpAll l else []
theorem nameL_bytes {l : List UInt8} (h : nameL l = true) : nameByteL l := (of_decide_eq_true h).2.2
theorem fieldsOk_packs {l : List UInt8} (h : nameL l = true) : fieldsOk (packs l) = true ∧ unpAll (packs l) = l := by
  have e : unpAll (packs l) = l := by
    rw [packs_yes h]
    exact unpAll_packN _ l (Nat.le_refl _) (nameL_bytes h)
  refine ⟨?_, e⟩
  unfold fieldsOk
  rw [e, h, Bool.and_true]
  exact decide_eq_true ⟨(packs_len l).2, rfl⟩
theorem nameL_take {l : List UInt8} (h : nameL l = true) : nameL (l.take (fillN 28 l).2) = true := by
  obtain ⟨h1, h2, h3⟩ := of_decide_eq_true h
  have hne : l ≠ [] := by intro e; rw [e] at h1; simp at h1
  have hp := fillN_pos hne
  refine decide_eq_true ⟨?_, ?_, fun c hc => h3 c (List.mem_of_mem_take hc)⟩
  · rw [List.length_take]; omega
  · rw [List.length_take]; omega
theorem fieldsOk_first {l : List UInt8} (h : nameL l = true) : fieldsOk [(fillN 28 l).1] = true := by
  have hl := nameL_bytes h
  have h2 := nameL_take h
  have hn2 : l.take (fillN 28 l).2 ≠ [] := by intro e; rw [e] at h2; exact absurd h2 (by decide)
  have e1 : unpAll [(fillN 28 l).1] = l.take (fillN 28 l).2 := by
    show unpOne _ ++ [] = _
    rw [List.append_nil, unpOne_fill hl]
  unfold fieldsOk
  rw [e1, h2, Bool.and_true]
  refine decide_eq_true ⟨show (1 : Nat) ≤ 24 by decide, ?_⟩
  rw [packs_yes h2, packL_go hn2, fillN_take]
  have : (l.take (fillN 28 l).2).drop (fillN 28 l).2 = [] := by rw [List.drop_take_self]
  rw [this, packL_nil]
theorem nameL_drop {l : List UInt8} (h : nameL l = true) (n : Nat) (hne : l.drop n ≠ []) : nameL (l.drop n) = true := by
  obtain ⟨h1, h2, h3⟩ := of_decide_eq_true h
  refine decide_eq_true ⟨List.length_pos_iff.2 hne, ?_, fun c hc => h3 c (List.mem_of_mem_drop hc)⟩
  rw [List.length_drop]; omega
theorem fieldsOk_each : ∀ (n : Nat) (l : List UInt8), nameL l = true → ∀ f ∈ packN n l, fieldsOk [f] = true
  | 0, l, _ => fun f h => absurd h List.not_mem_nil
  | n + 1, l, h => fun f hf => by
    by_cases hl : l = []
    · rw [hl, packN_nil] at hf; simp at hf
    · rw [packN_go hl] at hf
      rcases List.mem_cons.1 hf with hf | hf
      · rw [hf]; exact fieldsOk_first h
      · by_cases hd : l.drop (fillN 28 l).2 = []
        · rw [hd, packN_nil] at hf; simp at hf
        · exact fieldsOk_each n _ (nameL_drop h _ hd) f hf
theorem fieldsOk_mem {l : List UInt8} (h : nameL l = true) : ∀ f ∈ packs l, fieldsOk [f] = true := by
  rw [packs_yes h]
  exact fieldsOk_each _ l h
theorem packs_some {l : List UInt8} (h : nameL l = true) : packs l ≠ [] := by
  obtain ⟨h1, _, _⟩ := of_decide_eq_true h
  have hne : l ≠ [] := by intro e; rw [e] at h1; simp at h1
  rw [packs_yes h, packL_go hne]
  exact List.cons_ne_nil _ _
/-- A field that is a name's is what that name is packed into, and all of its letters fit. -/
theorem fieldsOk_one {f : Nat} (h : fieldsOk [f] = true) : pack1 (unpOne f) = (f, (unpOne f).length) := by
  unfold fieldsOk at h
  rw [Bool.and_eq_true] at h
  obtain ⟨h1, h2⟩ := h
  have e1 : unpAll [f] = unpOne f := List.append_nil _
  rw [e1] at h1 h2
  obtain ⟨_, h3⟩ := of_decide_eq_true h1
  rw [packs_yes h2] at h3
  have hne : unpOne f ≠ [] := by intro e; rw [e] at h2; exact absurd h2 (by decide)
  rw [packL_go hne] at h3
  injection h3 with h4 h5
  have h6 : (unpOne f).drop (fillN 28 (unpOne f)).2 = [] := by
    cases hd : (unpOne f).drop (fillN 28 (unpOne f)).2 with
    | nil => rfl
    | cons a b => rw [hd, packL_go (by simp)] at h5; exact absurd h5 (List.cons_ne_nil _ _)
  have h7 := fillN_len (unpOne f) 28
  have h8 : (unpOne f).length ≤ (fillN 28 (unpOne f)).2 := by simpa using h6
  rw [pack1_yes h2]
  exact Prod.ext h4 (by show (fillN 28 (unpOne f)).2 = _; omega)
theorem fieldsOk_back {l : List Nat} (h : fieldsOk l = true) : packs (unpAll l) = l := by
  unfold fieldsOk at h
  rw [Bool.and_eq_true] at h
  exact (of_decide_eq_true h.1).2
theorem fieldsOk_single (f : Nat) : fieldsOk [f] = decide (packs (unpOne f) = [f]) := by
  unfold fieldsOk
  have e1 : unpAll [f] = unpOne f := List.append_nil _
  rw [e1, Bool.eq_iff_iff, Bool.and_eq_true]
  constructor
  · intro ⟨h1, _⟩
    exact decide_eq_true (of_decide_eq_true h1).2
  · intro h
    have h2 := of_decide_eq_true h
    refine ⟨decide_eq_true ⟨show (1 : Nat) ≤ 24 by decide, h2⟩, ?_⟩
    cases hn : nameL (unpOne f) with
    | true => rfl
    | false => rw [packs_no hn] at h2; exact absurd h2.symm (List.cons_ne_nil _ _)
end Go.Proofs.YthihfgjolioabaaDoor
