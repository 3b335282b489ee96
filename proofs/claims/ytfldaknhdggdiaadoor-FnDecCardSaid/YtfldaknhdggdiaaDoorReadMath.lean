/-
  Plain mathematics of reading decimal texts, no program: which number a text of digits is, and that a number's decimal text is read back.
-/
import Derived.Test.YtfldaknhdggdiaaDoorDecMath
namespace Go.Proofs.YtfldaknhdggdiaaDoor

/-- The number that digits are, the first ahead. -/
def dval (l : List UInt8) : Nat := l.foldl (fun a c => 10 * a + (c.toNat - 48)) 0
theorem dval_snoc (l : List UInt8) (c : UInt8) : dval (l ++ [c]) = 10 * dval l + (c.toNat - 48) := by unfold dval; simp [List.foldl_append]
def DigB (c : UInt8) : Prop := 48 ≤ c.toNat ∧ c.toNat ≤ 57

theorem dig_byte {i : Nat} (h : i < 10) : (UInt8.ofNat (48 + i)).toNat = 48 + i := by
  rw [UInt8.toNat_ofNat']; omega
theorem decDigits_all (u : Nat) : ∀ c ∈ Lib.decDigits u, DigB c := by
  induction u using Nat.strongRecOn with
  | _ u ih =>
    intro c hc
    rw [Lib.decDigits] at hc
    split at hc
    · simp only [List.mem_cons, List.not_mem_nil, or_false] at hc
      subst hc
      unfold DigB
      rw [dig_byte (by omega)]
      omega
    · rw [List.mem_append] at hc
      rcases hc with hc | hc
      · exact ih (u / 10) (by omega) c hc
      · simp only [List.mem_cons, List.not_mem_nil, or_false] at hc
        subst hc
        unfold DigB
        rw [dig_byte (Nat.mod_lt _ (by decide))]
        omega
theorem dval_decDigits (u : Nat) : dval (Lib.decDigits u) = u := by
  induction u using Nat.strongRecOn with
  | _ u ih =>
    rw [Lib.decDigits]
    split
    · rename_i h
      show 10 * 0 + ((UInt8.ofNat (48 + u)).toNat - 48) = u
      rw [dig_byte h]; omega
    · rw [dval_snoc, ih (u / 10) (by omega), dig_byte (Nat.mod_lt _ (by decide))]
      omega
theorem decDigits_ne (u : Nat) : Lib.decDigits u ≠ [] := by
  intro h
  have := congrArg List.length h
  rw [Lib.decDigits_length] at this
  have := Lib.nDigits_pos u
  simp at *
  omega

/-- A text without the minus ahead. -/
def stp : List UInt8 → List UInt8
  | [] => []
  | c :: r => if c.toNat = 45 then r else c :: r
theorem stp_nil : stp [] = [] := rfl
theorem stp_take_succ {l : List UInt8} {k : Nat} (h : k < l.length) (hn : ¬ (k = 0 ∧ (l[k]).toNat = 45)) : stp (l.take (k + 1)) = stp (l.take k) ++ [l[k]] := by
  cases l with
  | nil => simp at h
  | cons c r =>
    cases k with
    | zero =>
      simp only [List.getElem_cons_zero, true_and] at hn
      simp [stp, hn]
    | succ k =>
      have e : r.take (k + 1) = r.take k ++ [r[k]'(by simpa using h)] := by rw [List.take_succ_eq_append_getElem (by simpa using h)]
      simp only [List.take_succ_cons, stp, List.getElem_cons_succ, e]
      split <;> simp
theorem stp_take_one {l : List UInt8} (h : 0 < l.length) (hn : (l[0]).toNat = 45) : stp (l.take 1) = [] := by
  cases l with
  | nil => simp at h
  | cons c r =>
    simp only [List.getElem_cons_zero] at hn
    simp [stp, hn]
theorem mem_stp {l : List UInt8} {k : Nat} (h : k < l.length) (hn : ¬ (k = 0 ∧ (l[k]).toNat = 45)) : l[k] ∈ stp l := by
  cases l with
  | nil => simp at h
  | cons c r =>
    cases k with
    | zero =>
      simp only [List.getElem_cons_zero, true_and] at hn
      simp [stp, hn]
    | succ k =>
      simp only [List.getElem_cons_succ, stp]
      split
      · exact List.getElem_mem _
      · exact List.mem_cons_of_mem _ (List.getElem_mem _)
theorem stp_itoa (m : Int) : stp (Lib.itoa m) = Lib.decDigits m.natAbs := by
  unfold Lib.itoa
  split
  · simp [stp]
  · rw [show m.toNat = m.natAbs by omega]
    have h := decDigits_all m.natAbs
    generalize Lib.decDigits m.natAbs = l at h
    cases l with
    | nil => rfl
    | cons c r =>
      have := h c (by simp)
      unfold DigB at this
      simp only [stp]
      rw [if_neg (by omega)]
theorem itoa_head {m : Int} (h : 0 < (Lib.itoa m).length) : ((Lib.itoa m)[0].toNat = 45) ↔ m < 0 := by
  by_cases hm : m < 0
  · simp [Lib.itoa, hm]
  · have e : Lib.itoa m = Lib.decDigits m.toNat := by simp [Lib.itoa, hm]
    have hd := decDigits_all m.toNat
    simp only [hm, iff_false]
    intro hc
    have hx := hd (Lib.itoa m)[0] (by rw [← e]; exact List.getElem_mem _)
    unfold DigB at hx
    omega
theorem itoa_ne (m : Int) : Lib.itoa m ≠ [] := by
  unfold Lib.itoa
  split
  · simp
  · exact decDigits_ne _
theorem itoa_inj {a b : Int} (h : Lib.itoa a = Lib.itoa b) : a = b := by
  have h1 := congrArg stp h
  rw [stp_itoa, stp_itoa] at h1
  have h2 := congrArg dval h1
  rw [dval_decDigits, dval_decDigits] at h2
  have la : 0 < (Lib.itoa a).length := List.length_pos_iff.2 (itoa_ne a)
  have lb : 0 < (Lib.itoa b).length := List.length_pos_iff.2 (itoa_ne b)
  have ha := itoa_head la
  have hb := itoa_head lb
  have : (a < 0) ↔ (b < 0) := by rw [← ha, ← hb]; simp only [h]
  omega
theorem nDigits_le : ∀ (k u : Nat), u < 10 ^ (k + 1) → Lib.nDigits u ≤ k + 1
  | 0, u, h => by rw [Lib.nDigits_small (by simpa using h)]; omega
  | k + 1, u, h => by
    by_cases h1 : u < 10
    · rw [Lib.nDigits_small h1]; omega
    · rw [Lib.nDigits_big h1]
      have := nDigits_le k (u / 10) (Nat.div_lt_of_lt_mul (by rw [Nat.pow_succ] at h; omega))
      omega
theorem itoa_len {m : Int} (h0 : -9999999999 ≤ m) (h1 : m ≤ 9999999999) : (Lib.itoa m).length ≤ 11 := by
  have hn : (Lib.decDigits m.natAbs).length ≤ 10 := by
    rw [Lib.decDigits_length]
    exact nDigits_le 9 _ (by simp only [Nat.reduceAdd, Nat.reducePow]; omega)
  unfold Lib.itoa
  split
  · simpa using hn
  · rw [show m.toNat = m.natAbs by omega]; omega

theorem read_key {l : List UInt8} {m z : Int} {v : Nat} (hd : dval (stp l) = v) (h0 : 0 < l.length) (hz : z = if l[0].toNat = 45 then -(v : Int) else v) (hm : l = Lib.itoa m) : m = z := by
  subst hm
  rw [stp_itoa, dval_decDigits] at hd
  have hh := itoa_head h0
  by_cases h45 : (Lib.itoa m)[0].toNat = 45
  · rw [if_pos h45] at hz
    have := hh.1 h45
    omega
  · rw [if_neg h45] at hz
    have : ¬ m < 0 := fun h => h45 (hh.2 h)
    omega

/-- What reading a text answers. -/
def ReadsDec (l : List UInt8) (n : Int) (b : Bool) : Prop :=
  (b = true ∧ -9999999999 ≤ n ∧ n ≤ 9999999999 ∧ l = Lib.itoa n) ∨ (b = false ∧ n = 0 ∧ ∀ m : Int, -9999999999 ≤ m → m ≤ 9999999999 → l ≠ Lib.itoa m)
theorem ReadsDec.unique {l : List UInt8} {n m : Int} {a b : Bool} (h : ReadsDec l n a) (k : ReadsDec l m b) : n = m ∧ a = b := by
  rcases h with ⟨rfl, h1, h2, h3⟩ | ⟨rfl, rfl, h3⟩ <;> rcases k with ⟨rfl, k1, k2, k3⟩ | ⟨rfl, rfl, k3⟩
  · exact ⟨itoa_inj (h3.symm.trans k3), rfl⟩
  · exact absurd h3 (k3 _ h1 h2)
  · exact absurd k3 (h3 _ k1 k2)
  · exact ⟨rfl, rfl⟩
end Go.Proofs.YtfldaknhdggdiaaDoor
