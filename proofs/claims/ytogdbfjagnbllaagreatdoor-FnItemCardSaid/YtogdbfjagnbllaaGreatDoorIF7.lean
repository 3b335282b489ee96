/-
  Plain mathematics of texts in base 16, no program.
  Plain mathematics of decimal texts, no program: how the digits of a number are gathered from the last one on.
  Plain mathematics of reading decimal texts, no program: which number a text of digits is, and that a number's decimal text is read back.
  The text of an item, as a plain function, and that an item's text tells the item.
  spec.DecText answers the number's decimal numeral, at every int.
  The model's small test: spec.l01Digit answers whether a byte is a digit.
  spec.HexText answers the number's digits in base 16, at every uint32.
  The laws' own helpers on items: the copy of one, its size, whether two are alike.
  laws.FnExactItemOk answers true at every item.
  DRAFT, never built (no seat had these functions yet): the model's text of an item is the plain one.
  What the listed package-level variables give a walk: strconv's table of powers of ten.
  impl.DecText answers the number's decimal numeral, at every int.
  strconv's formatBits at base 16, no sign, not appended: the number's digits in base 16.
-/
import Derived.Lib.ItoaNum
import Derived.Lib.ItoaLen
import Derived.Test.YtogdbfjagnbllaaGreatDoorIF4
import Derived.Test.YtogdbfjagnbllaaGreatDoorProg
import Derived.WalkKit
import Derived.WalkSpells
import Derived.Lib.Hide
import Derived.Lib.ItoaMem
import Derived.LoopTactic
import Derived.Test.YtogdbfjagnbllaaGreatDoorIF2
import Derived.Test.YtogdbfjagnbllaaGreatDoorIF5
import Derived.Handy
import Derived.Test.YtogdbfjagnbllaaGreatDoorIF6
import Derived.BigQuiet
import Derived.Deep.QuietTactic
import Derived.Test.YtogdbfjagnbllaaGreatDoorRows
import Derived.Test.YtogdbfjagnbllaaGreatDoorIF3
import Derived.Lib.LaidTab
import Derived.Stop.LaidErr
import Derived.MakeChecks
import Derived.Test.YtogdbfjagnbllaaGreatDoorShelf
import Derived.Test.YtogdbfjagnbllaaGreatDoorIF1
import Derived.Laws.BitsAllLaws
import Derived.Laws.BitsLemmas
import Derived.WalkLawsBesides
namespace Go.Proofs.YtogdbfjagnbllaaGreatDoor

/-- A digit in base 16. -/
def hdig (i : Nat) : UInt8 := if i < 10 then UInt8.ofNat (48 + i) else UInt8.ofNat (87 + i)
/-- The digits of u in base 16, the first ahead; one nought for 0. -/
def hexDigits (u : Nat) : List UInt8 :=
  if _h : u < 16 then [hdig u] else hexDigits (u / 16) ++ [hdig (u % 16)]
termination_by u
decreasing_by omega
theorem hex_small {u : Nat} (h : u < 16) : hexDigits u = [hdig u] := by rw [hexDigits, dif_pos h]
theorem hex_big {u : Nat} (h : ¬ u < 16) : hexDigits u = hexDigits (u / 16) ++ [hdig (u % 16)] := by rw [hexDigits, dif_neg h]
theorem hex_len : ∀ (k u : Nat), u < 16 ^ (k + 1) → (hexDigits u).length ≤ k + 1
  | 0, u, h => by rw [hex_small (by simpa using h)]; simp
  | k + 1, u, h => by
    by_cases h1 : u < 16
    · rw [hex_small h1]; simp
    · rw [hex_big h1, List.length_append]
      have := hex_len k (u / 16) (Nat.div_lt_of_lt_mul (by rw [Nat.pow_succ] at h; omega))
      simp
      omega
theorem hex_len8 {u : Nat} (h : u < 4294967296) : (hexDigits u).length ≤ 8 := hex_len 7 u (by simp only [Nat.reduceAdd, Nat.reducePow]; omega)
theorem hex_ne (u : Nat) : hexDigits u ≠ [] := by
  by_cases h : u < 16
  · rw [hex_small h]; simp
  · rw [hex_big h]; simp
/-- The digits, none for 0. -/
def hh (u : Nat) : List UInt8 := if u = 0 then [] else hexDigits u
theorem hh_zero : hh 0 = [] := rfl
theorem hh_pos {u : Nat} (h : u ≠ 0) : hh u = hexDigits u := by unfold hh; rw [if_neg h]
theorem hh_step {u : Nat} (h : u ≠ 0) : hh u = hh (u / 16) ++ [hdig (u % 16)] := by
  rw [hh_pos h]
  by_cases h16 : u < 16
  · rw [hex_small h16, show u / 16 = 0 by omega, hh_zero, Nat.mod_eq_of_lt h16]; rfl
  · rw [hex_big h16, hh_pos (by omega)]
theorem hh_length {u : Nat} (h : u < 4294967296) : (hh u).length ≤ 8 := by
  by_cases h0 : u = 0
  · subst h0; rw [hh_zero]; simp
  · rw [hh_pos h0]; exact hex_len8 h
theorem hdig_lt {i : Nat} (h : i < 16) : (hdig i).toNat = if i < 10 then 48 + i else 87 + i := by
  unfold hdig
  split
  · rw [UInt8.toNat_ofNat']; omega
  · rw [UInt8.toNat_ofNat']; omega
/-- The number that digits in base 16 are. -/
def hval1 (c : UInt8) : Nat := if c.toNat ≤ 57 then c.toNat - 48 else c.toNat - 87
def HexB (c : UInt8) : Prop := (48 ≤ c.toNat ∧ c.toNat ≤ 57) ∨ (97 ≤ c.toNat ∧ c.toNat ≤ 102)
def hval (l : List UInt8) : Nat := l.foldl (fun a c => 16 * a + hval1 c) 0
theorem hval_snoc (l : List UInt8) (c : UInt8) : hval (l ++ [c]) = 16 * hval l + hval1 c := by unfold hval; simp [List.foldl_append]
theorem hval1_lt {c : UInt8} (h : HexB c) : hval1 c < 16 := by unfold HexB at h; unfold hval1; split <;> omega
theorem hdig_hex {i : Nat} (h : i < 16) : HexB (hdig i) ∧ hval1 (hdig i) = i := by
  have := hdig_lt h
  unfold HexB hval1
  split at this <;> rw [this]
  · exact ⟨.inl ⟨by omega, by omega⟩, by rw [if_pos (by omega)]; omega⟩
  · exact ⟨.inr ⟨by omega, by omega⟩, by rw [if_neg (by omega)]; omega⟩
theorem hex_all (u : Nat) : ∀ c ∈ hexDigits u, HexB c := by
  induction u using Nat.strongRecOn with
  | _ u ih =>
    intro c hc
    by_cases h : u < 16
    · rw [hex_small h] at hc
      simp only [List.mem_cons, List.not_mem_nil, or_false] at hc
      subst hc; exact (hdig_hex h).1
    · rw [hex_big h, List.mem_append] at hc
      rcases hc with hc | hc
      · exact ih (u / 16) (by omega) c hc
      · simp only [List.mem_cons, List.not_mem_nil, or_false] at hc
        subst hc; exact (hdig_hex (Nat.mod_lt _ (by decide))).1
theorem hval_hex (u : Nat) : hval (hexDigits u) = u := by
  induction u using Nat.strongRecOn with
  | _ u ih =>
    by_cases h : u < 16
    · rw [hex_small h]
      show 16 * 0 + hval1 (hdig u) = u
      rw [(hdig_hex h).2]; omega
    · rw [hex_big h, hval_snoc, ih (u / 16) (by omega), (hdig_hex (Nat.mod_lt _ (by decide))).2]
      omega
theorem hex_inj {a b : Nat} (h : hexDigits a = hexDigits b) : a = b := by
  have := congrArg hval h
  rwa [hval_hex, hval_hex] at this
def sixteen : ByteArray := ⟨#[48, 49, 50, 51, 52, 53, 54, 55, 56, 57, 97, 98, 99, 100, 101, 102]⟩
theorem sixteen_one_fin : ∀ i : Fin 16, sixteen.extract i.val (i.val + 1) = ⟨#[hdig i.val]⟩ := by decide +kernel
theorem sixteen_one {i : Nat} (h : i < 16) : sixteen.extract i (i + 1) = ⟨#[hdig i]⟩ := sixteen_one_fin ⟨i, h⟩
/-- What reading a text in base 16 answers. -/
def ReadsHex (l : List UInt8) (n : Nat) (b : Bool) : Prop :=
  (b = true ∧ n < 4294967296 ∧ l = hexDigits n) ∨ (b = false ∧ n = 0 ∧ ∀ m : Nat, m < 4294967296 → l ≠ hexDigits m)
theorem ReadsHex.unique {l : List UInt8} {n m : Nat} {a b : Bool} (h : ReadsHex l n a) (k : ReadsHex l m b) : n = m ∧ a = b := by
  rcases h with ⟨rfl, h1, h2⟩ | ⟨rfl, rfl, h2⟩ <;> rcases k with ⟨rfl, k1, k2⟩ | ⟨rfl, rfl, k2⟩
  · exact ⟨hex_inj (h2.symm.trans k2), rfl⟩
  · exact absurd h2 (k2 _ h1)
  · exact absurd k2 (h2 _ k1)
  · exact ⟨rfl, rfl⟩
end Go.Proofs.YtogdbfjagnbllaaGreatDoor

namespace Go.Proofs.YtogdbfjagnbllaaGreatDoor

/-- The decimal digits of u, none for 0. -/
def dd (u : Nat) : List UInt8 := if u = 0 then [] else Lib.decDigits u
theorem dd_zero : dd 0 = [] := rfl
theorem dd_pos {u : Nat} (h : u ≠ 0) : dd u = Lib.decDigits u := by unfold dd; rw [if_neg h]
theorem dd_step {u : Nat} (h : u ≠ 0) : dd u = dd (u / 10) ++ [UInt8.ofNat (48 + u % 10)] := by
  rw [dd_pos h, Lib.decDigits]
  by_cases h10 : u < 10
  · rw [dif_pos h10]
    have : u / 10 = 0 := by omega
    rw [this, dd_zero, Nat.mod_eq_of_lt h10]; rfl
  · rw [dif_neg h10, dd_pos (by omega)]
theorem dd_length {u : Nat} (h : u < 18446744073709551616) : (dd u).length ≤ 20 := by
  by_cases h0 : u = 0
  · subst h0; rw [dd_zero]; simp
  · rw [dd_pos h0, Lib.decDigits_length]; exact Lib.nDigits_le20 u h

def tenDigits : ByteArray := ⟨#[48, 49, 50, 51, 52, 53, 54, 55, 56, 57]⟩
theorem tenDigits_one_fin : ∀ i : Fin 10, tenDigits.extract i.val (i.val + 1) = ⟨#[UInt8.ofNat (48 + i.val)]⟩ := by decide +kernel
theorem tenDigits_one {i : Nat} (h : i < 10) : tenDigits.extract i (i + 1) = ⟨#[UInt8.ofNat (48 + i)]⟩ := tenDigits_one_fin ⟨i, h⟩
end Go.Proofs.YtogdbfjagnbllaaGreatDoor

namespace Go.Proofs.YtogdbfjagnbllaaGreatDoor

/-- The number that digits are, the first ahead. -/
def dval (l : List UInt8) : Nat := l.foldl (fun a c => 10 * a + (c.toNat - 48)) 0
theorem dval_snoc (l : List UInt8) (c : UInt8) : dval (l ++ [c]) = 10 * dval l + (c.toNat - 48) := by unfold dval; simp [List.foldl_append]
def DigB (c : UInt8) : Prop := 48 ≤ c.toNat ∧ c.toNat ≤ 57

theorem dig_byte {i : Nat} (h : i < 10) : (UInt8.ofNat (48 + i)).toNat = 48 + i := by
  rw [UInt8.toNat_ofNat']; omega
theorem decDigits_all (u : Nat) : ∀ c ∈ Lib.decDigits u, DigB c := by
  induction u using Nat.strongRecOn with
  | _ u ih =>
    intro c hc
    rw [Lib.decDigits] at hc
    split at hc
    · simp only [List.mem_cons, List.not_mem_nil, or_false] at hc
      subst hc
      unfold DigB
      rw [dig_byte (by omega)]
      omega
    · rw [List.mem_append] at hc
      rcases hc with hc | hc
      · exact ih (u / 10) (by omega) c hc
      · simp only [List.mem_cons, List.not_mem_nil, or_false] at hc
        subst hc
        unfold DigB
        rw [dig_byte (Nat.mod_lt _ (by decide))]
        omega
theorem dval_decDigits (u : Nat) : dval (Lib.decDigits u) = u := by
  induction u using Nat.strongRecOn with
  | _ u ih =>
    rw [Lib.decDigits]
    split
    · rename_i h
      show 10 * 0 + ((UInt8.ofNat (48 + u)).toNat - 48) = u
      rw [dig_byte h]; omega
    · rw [dval_snoc, ih (u / 10) (by omega), dig_byte (Nat.mod_lt _ (by decide))]
      omega
theorem decDigits_ne (u : Nat) : Lib.decDigits u ≠ [] := by
  intro h
  have := congrArg List.length h
  rw [Lib.decDigits_length] at this
  have := Lib.nDigits_pos u
  simp at *
  omega

/-- A text without the minus ahead. -/
def stp : List UInt8 → List UInt8
  | [] => []
  | c :: r => if c.toNat = 45 then r else c :: r
theorem stp_nil : stp [] = [] := rfl
theorem stp_take_succ {l : List UInt8} {k : Nat} (h : k < l.length) (hn : ¬ (k = 0 ∧ (l[k]).toNat = 45)) : stp (l.take (k + 1)) = stp (l.take k) ++ [l[k]] := by
  cases l with
  | nil => simp at h
  | cons c r =>
    cases k with
    | zero =>
      simp only [List.getElem_cons_zero, true_and] at hn
      simp [stp, hn]
    | succ k =>
      have e : r.take (k + 1) = r.take k ++ [r[k]'(by simpa using h)] := by rw [List.take_succ_eq_append_getElem (by simpa using h)]
      simp only [List.take_succ_cons, stp, List.getElem_cons_succ, e]
      split <;> simp
theorem stp_take_one {l : List UInt8} (h : 0 < l.length) (hn : (l[0]).toNat = 45) : stp (l.take 1) = [] := by
  cases l with
  | nil => simp at h
  | cons c r =>
    simp only [List.getElem_cons_zero] at hn
    simp [stp, hn]
theorem mem_stp {l : List UInt8} {k : Nat} (h : k < l.length) (hn : ¬ (k = 0 ∧ (l[k]).toNat = 45)) : l[k] ∈ stp l := by
  cases l with
  | nil => simp at h
  | cons c r =>
    cases k with
    | zero =>
      simp only [List.getElem_cons_zero, true_and] at hn
      simp [stp, hn]
    | succ k =>
      simp only [List.getElem_cons_succ, stp]
      split
      · exact List.getElem_mem _
      · exact List.mem_cons_of_mem _ (List.getElem_mem _)
theorem stp_itoa (m : Int) : stp (Lib.itoa m) = Lib.decDigits m.natAbs := by
  unfold Lib.itoa
  split
  · simp [stp]
  · rw [show m.toNat = m.natAbs by omega]
    have h := decDigits_all m.natAbs
    generalize Lib.decDigits m.natAbs = l at h
    cases l with
    | nil => rfl
    | cons c r =>
      have := h c (by simp)
      unfold DigB at this
      simp only [stp]
      rw [if_neg (by omega)]
theorem itoa_head {m : Int} (h : 0 < (Lib.itoa m).length) : ((Lib.itoa m)[0].toNat = 45) ↔ m < 0 := by
  by_cases hm : m < 0
  · simp [Lib.itoa, hm]
  · have e : Lib.itoa m = Lib.decDigits m.toNat := by simp [Lib.itoa, hm]
    have hd := decDigits_all m.toNat
    simp only [hm, iff_false]
    intro hc
    have hx := hd (Lib.itoa m)[0] (by rw [← e]; exact List.getElem_mem _)
    unfold DigB at hx
    omega
theorem itoa_ne (m : Int) : Lib.itoa m ≠ [] := by
  unfold Lib.itoa
  split
  · simp
  · exact decDigits_ne _
theorem itoa_inj {a b : Int} (h : Lib.itoa a = Lib.itoa b) : a = b := by
  have h1 := congrArg stp h
  rw [stp_itoa, stp_itoa] at h1
  have h2 := congrArg dval h1
  rw [dval_decDigits, dval_decDigits] at h2
  have la : 0 < (Lib.itoa a).length := List.length_pos_iff.2 (itoa_ne a)
  have lb : 0 < (Lib.itoa b).length := List.length_pos_iff.2 (itoa_ne b)
  have ha := itoa_head la
  have hb := itoa_head lb
  have : (a < 0) ↔ (b < 0) := by rw [← ha, ← hb]; simp only [h]
  omega
theorem nDigits_le : ∀ (k u : Nat), u < 10 ^ (k + 1) → Lib.nDigits u ≤ k + 1
  | 0, u, h => by rw [Lib.nDigits_small (by simpa using h)]; omega
  | k + 1, u, h => by
    by_cases h1 : u < 10
    · rw [Lib.nDigits_small h1]; omega
    · rw [Lib.nDigits_big h1]
      have := nDigits_le k (u / 10) (Nat.div_lt_of_lt_mul (by rw [Nat.pow_succ] at h; omega))
      omega
theorem itoa_len {m : Int} (h0 : -9999999999 ≤ m) (h1 : m ≤ 9999999999) : (Lib.itoa m).length ≤ 11 := by
  have hn : (Lib.decDigits m.natAbs).length ≤ 10 := by
    rw [Lib.decDigits_length]
    exact nDigits_le 9 _ (by simp only [Nat.reduceAdd, Nat.reducePow]; omega)
  unfold Lib.itoa
  split
  · simpa using hn
  · rw [show m.toNat = m.natAbs by omega]; omega

theorem read_key {l : List UInt8} {m z : Int} {v : Nat} (hd : dval (stp l) = v) (h0 : 0 < l.length) (hz : z = if l[0].toNat = 45 then -(v : Int) else v) (hm : l = Lib.itoa m) : m = z := by
  subst hm
  rw [stp_itoa, dval_decDigits] at hd
  have hh := itoa_head h0
  by_cases h45 : (Lib.itoa m)[0].toNat = 45
  · rw [if_pos h45] at hz
    have := hh.1 h45
    omega
  · rw [if_neg h45] at hz
    have : ¬ m < 0 := fun h => h45 (hh.2 h)
    omega

/-- What reading a text answers. -/
def ReadsDec (l : List UInt8) (n : Int) (b : Bool) : Prop :=
  (b = true ∧ -9999999999 ≤ n ∧ n ≤ 9999999999 ∧ l = Lib.itoa n) ∨ (b = false ∧ n = 0 ∧ ∀ m : Int, -9999999999 ≤ m → m ≤ 9999999999 → l ≠ Lib.itoa m)
theorem ReadsDec.unique {l : List UInt8} {n m : Int} {a b : Bool} (h : ReadsDec l n a) (k : ReadsDec l m b) : n = m ∧ a = b := by
  rcases h with ⟨rfl, h1, h2, h3⟩ | ⟨rfl, rfl, h3⟩ <;> rcases k with ⟨rfl, k1, k2, k3⟩ | ⟨rfl, rfl, k3⟩
  · exact ⟨itoa_inj (h3.symm.trans k3), rfl⟩
  · exact absurd h3 (k3 _ h1 h2)
  · exact absurd k3 (h3 _ k1 k2)
  · exact ⟨rfl, rfl⟩
end Go.Proofs.YtogdbfjagnbllaaGreatDoor

namespace Go.Proofs.YtogdbfjagnbllaaGreatDoor
open Go

/-- The mark of a kind. -/
def markOf (k : Int) : UInt8 := if k = 1 ∨ k = 7 then 126 else if k = 2 then 58 else if k = 3 ∨ k = 8 then 61 else if k = 4 then 34 else if k = 5 then 94 else if k = 6 then 95 else if k = 9 then 38 else 37
/-- What stands behind the mark. -/
def tailOf (it : It) : List UInt8 :=
  if it.kind = 7 ∨ it.kind = 8 then (if it.hex = true then 36 :: hexDigits (lowN it.n) else 35 :: Lib.itoa it.n)
  else if it.kind = 9 then it.name.data.toList ++ 35 :: Lib.itoa it.n
  else if it.kind = 0 then hexDigits it.raw
  else it.name.data.toList
def textOf (it : It) : List UInt8 := if cellsOf it = [] then [] else markOf it.kind :: tailOf it

/-- The forms of an item that has cells. -/
def ItForm (it : It) : Prop :=
  (it.kind = 0 ∧ it.name = noText ∧ it.n = 0 ∧ it.hex = false) ∨ ((it.kind = 7 ∨ it.kind = 8) ∧ it.name = noText ∧ it.raw = 0) ∨
  (it.kind = 9 ∧ it.hex = false ∧ it.raw = 0 ∧ nameL it.name.data.toList = true) ∨ ((1 ≤ it.kind ∧ it.kind ≤ 6) ∧ it.n = 0 ∧ it.hex = false ∧ it.raw = 0 ∧ nameL it.name.data.toList = true)
theorem packs_name {l : List UInt8} (h : packs l ≠ []) : nameL l = true := by
  by_cases hn : nameL l = true
  · exact hn
  · exact absurd (packs_no (by simpa using hn)) h
theorem form_of {it : It} (h : cellsOf it ≠ []) : ItForm it := by
  obtain ⟨k, nm, n, x, r⟩ := it
  unfold cellsOf at h
  unfold ItForm
  simp only at h ⊢
  by_cases h0 : k = 0
  · rw [if_pos h0] at h
    split at h
    · rename_i hc; exact .inl ⟨h0, hc⟩
    · exact absurd rfl h
  · rw [if_neg h0] at h
    by_cases h7 : k = 7 ∨ k = 8
    · rw [if_pos h7] at h
      split at h
      · rename_i hc; exact .inr (.inl ⟨h7, hc⟩)
      · exact absurd rfl h
    · rw [if_neg h7] at h
      by_cases h9 : k = 9
      · rw [if_pos h9] at h
        split at h
        · rename_i hc
          refine .inr (.inr (.inl ⟨h9, hc.1, hc.2, packs_name fun e => h ?_⟩))
          rw [e]; rfl
        · exact absurd rfl h
      · rw [if_neg h9] at h
        split at h
        · rename_i h16
          split at h
          · rename_i hc
            refine .inr (.inr (.inr ⟨h16, hc.1, hc.2.1, hc.2.2, packs_name fun e => h ?_⟩))
            rw [e]; rfl
          · exact absurd rfl h
        · exact absurd rfl h
theorem nameL_noHash {l : List UInt8} (h : nameL l = true) : (35 : UInt8) ∉ l ∧ (36 : UInt8) ∉ l ∧ l ≠ [] :=
  ⟨fun hm => by have := nameL_bytes h _ hm; revert this; decide +kernel, fun hm => by have := nameL_bytes h _ hm; revert this; decide +kernel, fun e => by
    have := (of_decide_eq_true h).1
    rw [e] at this; simp at this⟩
theorem split_inj {c : UInt8} : ∀ {a b r s : List UInt8}, c ∉ a → c ∉ b → a ++ c :: r = b ++ c :: s → a = b ∧ r = s
  | [], [], _, _, _, _, h => by simpa using h
  | [], y :: b, _, _, _, hb, h => by
    simp only [List.nil_append, List.cons_append, List.cons.injEq] at h
    exact absurd (by rw [h.1]; simp) hb
  | x :: a, [], _, _, ha, _, h => by
    simp only [List.nil_append, List.cons_append, List.cons.injEq] at h
    exact absurd (by rw [← h.1]; simp) ha
  | x :: a, y :: b, r, s, ha, hb, h => by
    simp only [List.cons_append, List.cons.injEq] at h
    obtain ⟨e1, e2⟩ := split_inj (fun hm => ha (by simp [hm])) (fun hm => hb (by simp [hm])) h.2
    exact ⟨by rw [h.1, e1], e2⟩
theorem bytes_of_list {a b : ByteArray} (h : a.data.toList = b.data.toList) : a = b := by
  cases a; cases b; simpa using h
theorem tail_num {it : It} (h : it.kind = 7 ∨ it.kind = 8) : tailOf it = if it.hex = true then 36 :: hexDigits (lowN it.n) else 35 :: Lib.itoa it.n := by
  unfold tailOf; rw [if_pos h]
theorem tail_var {it : It} (h : it.kind = 9) : tailOf it = it.name.data.toList ++ 35 :: Lib.itoa it.n := by
  unfold tailOf; rw [if_neg (by omega), if_pos h]
theorem tail_raw {it : It} (h : it.kind = 0) : tailOf it = hexDigits it.raw := by
  unfold tailOf; rw [if_neg (by omega), if_neg (by omega), if_pos h]
theorem tail_word {it : It} (h : 1 ≤ it.kind ∧ it.kind ≤ 6) : tailOf it = it.name.data.toList := by
  unfold tailOf; rw [if_neg (by omega), if_neg (by omega), if_neg (by omega)]
theorem tail_first {it : It} (ho : ItForm it) : ∃ c l, tailOf it = c :: l ∧ ((c = 35 ∨ c = 36) ↔ (it.kind = 7 ∨ it.kind = 8)) := by
  have hx : ∀ u : Nat, ∀ c l, hexDigits u = c :: l → ¬ (c = 35 ∨ c = 36) := fun u c l e hc => by
    have := hex_all u c (by rw [e]; simp)
    rcases hc with rfl | rfl <;> simp [HexB] at this
  rcases ho with ⟨h0, h1, h2, h3⟩ | ⟨h0, h1, h2⟩ | ⟨h0, h1, h2, h3⟩ | ⟨h0, h1, h2, h3, h4⟩
  · rw [tail_raw h0]
    cases e : hexDigits it.raw with
    | nil => exact absurd e (hex_ne _)
    | cons c l => exact ⟨c, l, rfl, ⟨fun hc => absurd hc (hx _ _ _ e), fun hk => by omega⟩⟩
  · rw [tail_num h0]
    cases it.hex with
    | true => exact ⟨36, _, rfl, ⟨fun _ => h0, fun _ => .inr rfl⟩⟩
    | false => exact ⟨35, _, rfl, ⟨fun _ => h0, fun _ => .inl rfl⟩⟩
  · obtain ⟨n1, n2, n3⟩ := nameL_noHash h3
    rw [tail_var h0]
    cases e : it.name.data.toList with
    | nil => exact absurd e n3
    | cons c l =>
      rw [e] at n1 n2
      exact ⟨c, _, rfl, ⟨fun hc => by rcases hc with rfl | rfl <;> simp at n1 n2, fun hk => by omega⟩⟩
  · obtain ⟨n1, n2, n3⟩ := nameL_noHash h4
    rw [tail_word h0]
    cases e : it.name.data.toList with
    | nil => exact absurd e n3
    | cons c l =>
      rw [e] at n1 n2
      exact ⟨c, _, rfl, ⟨fun hc => by rcases hc with rfl | rfl <;> simp at n1 n2, fun hk => by omega⟩⟩
theorem form_kind {it : It} (h : ItForm it) : 0 ≤ it.kind ∧ it.kind ≤ 9 := by
  rcases h with h | h | h | h <;> omega
theorem mark_kind {a b : Int} (ha : 0 ≤ a ∧ a ≤ 9) (hb : 0 ≤ b ∧ b ≤ 9) (h : markOf a = markOf b) (hn : (a = 7 ∨ a = 8) ↔ (b = 7 ∨ b = 8)) : a = b := by
  have ka : a = 0 ∨ a = 1 ∨ a = 2 ∨ a = 3 ∨ a = 4 ∨ a = 5 ∨ a = 6 ∨ a = 7 ∨ a = 8 ∨ a = 9 := by omega
  have kb : b = 0 ∨ b = 1 ∨ b = 2 ∨ b = 3 ∨ b = 4 ∨ b = 5 ∨ b = 6 ∨ b = 7 ∨ b = 8 ∨ b = 9 := by omega
  rcases ka with rfl | rfl | rfl | rfl | rfl | rfl | rfl | rfl | rfl | rfl <;> rcases kb with rfl | rfl | rfl | rfl | rfl | rfl | rfl | rfl | rfl | rfl <;> first | rfl | (exfalso; revert h; decide) | (exfalso; revert hn; decide)
/-- Two items that have cells and the same text are one. -/
theorem itext_inj {a b : It} (ha : ItIn a) (hb : ItIn b) (oa : ItForm a) (ob : ItForm b) (h : markOf a.kind :: tailOf a = markOf b.kind :: tailOf b) : a = b := by
  simp only [List.cons.injEq] at h
  obtain ⟨c, l, ec, hc⟩ := tail_first oa
  obtain ⟨d, m, ed, hd⟩ := tail_first ob
  have hcd : c = d := by
    have := h.2
    rw [ec, ed] at this
    exact (List.cons.inj this).1
  have hk : a.kind = b.kind := mark_kind (form_kind oa) (form_kind ob) h.1 (by rw [← hc, ← hd, hcd])
  have ht := h.2
  clear hc hd hcd ec ed h
  obtain ⟨k, nm, n, x, r⟩ := a
  obtain ⟨k', nm', n', x', r'⟩ := b
  simp only at hk
  subst hk
  rcases oa with ⟨h0, h1, h2, h3⟩ | ⟨h0, h1, h2⟩ | ⟨h0, h1, h2, h3⟩ | ⟨h0, h1, h2, h3, h4⟩ <;> rcases ob with ⟨k0, k1, k2, k3⟩ | ⟨k0, k1, k2⟩ | ⟨k0, k1, k2, k3⟩ | ⟨k0, k1, k2, k3, k4⟩ <;> simp only at h0 k0 <;> first | (exfalso; omega) | skip
  · rw [tail_raw h0, tail_raw k0] at ht
    simp only at h1 h2 h3 k1 k2 k3
    subst h1 h2 h3 k1 k2 k3
    have := hex_inj ht
    simp only at this
    subst this; rfl
  · rw [tail_num h0, tail_num k0] at ht
    simp only at h1 h2 k1 k2 ht
    subst h1 h2 k1 k2
    have a1 := ha.n1
    have a2 := ha.n2
    have b1 := hb.n1
    have b2 := hb.n2
    simp only at a1 a2 b1 b2
    cases x <;> cases x' <;> simp only [if_true, if_false, Bool.false_eq_true, List.cons.injEq, true_and] at ht
    · rw [itoa_inj ht]
    · exact absurd ht.1 (by decide)
    · exact absurd ht.1 (by decide)
    · have := hex_inj ht
      rw [show n = n' from by rw [← sgn_low a1 a2, ← sgn_low b1 b2, this]]
  · rw [tail_var h0, tail_var k0] at ht
    simp only at h1 h2 h3 k1 k2 k3 ht
    subst h1 h2 k1 k2
    obtain ⟨e1, e2⟩ := split_inj (nameL_noHash h3).1 (nameL_noHash k3).1 ht
    rw [bytes_of_list e1, itoa_inj e2]
  · rw [tail_word h0, tail_word k0] at ht
    simp only at h1 h2 h3 h4 k1 k2 k3 k4 ht
    subst h1 h2 h3 k1 k2 k3
    rw [bytes_of_list ht]

theorem text_yes {it : It} (h : cellsOf it ≠ []) : textOf it = markOf it.kind :: tailOf it := by unfold textOf; rw [if_neg h]
theorem text_no {it : It} (h : cellsOf it = []) : textOf it = [] := by unfold textOf; rw [if_pos h]
/-- What a text reads as: the one item that has it, or none. -/
def ReadsItem (l : List UInt8) (it : It) (b : Bool) : Prop :=
  (b = true ∧ cellsOf it ≠ [] ∧ ItIn it ∧ l = textOf it) ∨ (b = false ∧ it = rawIt 0 ∧ ∀ j : It, ItIn j → cellsOf j ≠ [] → l ≠ textOf j)
theorem ReadsItem.unique {l : List UInt8} {i j : It} {a b : Bool} (h : ReadsItem l i a) (k : ReadsItem l j b) : i = j ∧ a = b := by
  rcases h with ⟨h1, h2, h3, h4⟩ | ⟨h1, h2, h3⟩ <;> rcases k with ⟨k1, k2, k3, k4⟩ | ⟨k1, k2, k3⟩
  · refine ⟨itext_inj h3 k3 (form_of h2) (form_of k2) ?_, by rw [h1, k1]⟩
    rw [← text_yes h2, ← text_yes k2, ← h4, k4]
  · exact absurd h4 (k3 _ h3 h2)
  · exact absurd k4 (h3 _ k3 k2)
  · exact ⟨by rw [h2, k2], by rw [h1, k1]⟩
theorem text_len {it : It} (h : cellsOf it ≠ []) : 2 ≤ (textOf it).length := by
  obtain ⟨c, l, e, _⟩ := tail_first (form_of h)
  rw [text_yes h, e]; simp
end Go.Proofs.YtogdbfjagnbllaaGreatDoor

namespace Go.Proofs.YtogdbfjagnbllaaGreatDoor
open Go.RowKit

theorem ret_string {a b : List UInt8} (h : a = b) : Ending.returned (.string ⟨a.toArray⟩) = .returned (.string ⟨b.toArray⟩) := by rw [h]

theorem fin_neg {n : Int} (h : n < 0) : Ending.returned (.string ((⟨#[45]⟩ : ByteArray) ++ ⟨(dd n.natAbs).toArray⟩)) = .returned (.string ⟨(Lib.itoa n).toArray⟩) := by
  rw [ByteArray.mk_append_mk, dd_pos (by omega)]
  unfold Lib.itoa
  rw [if_pos h]
  simp
theorem fin_pos {n : Int} (h : 0 < n) : Ending.returned (.string (⟨(dd n.natAbs).toArray⟩ : ByteArray)) = .returned (.string ⟨(Lib.itoa n).toArray⟩) := by
  rw [dd_pos (by omega)]
  unfold Lib.itoa
  rw [if_neg (by omega), show n.toNat = n.natAbs by omega]

theorem dig_string (l : List UInt8) (j : Nat) : Value.string ((⟨#[48, 49, 50, 51, 52, 53, 54, 55, 56, 57]⟩ : ByteArray).extract (j % 10) (j % 10 + 1) ++ ⟨l.toArray⟩) = .string ⟨(UInt8.ofNat (48 + j % 10) :: l).toArray⟩ := by
  rw [show (⟨#[48, 49, 50, 51, 52, 53, 54, 55, 56, 57]⟩ : ByteArray) = tenDigits from rfl, tenDigits_one (Nat.mod_lt _ (by decide)), ByteArray.mk_append_mk]
  simp
theorem dig_step {j : Nat} {l m : List UInt8} (h : dd j ++ l = m) (hj : j ≠ 0) : dd (j / 10) ++ UInt8.ofNat (48 + j % 10) :: l = m := by
  rw [dd_step hj] at h
  simpa using h

theorem dig_neg {j : Nat} {l m : List UInt8} (h : dd (-(j : Int)).natAbs ++ l = m) (hj : j ≠ 0) : dd (-((j / 10 : Nat) : Int)).natAbs ++ UInt8.ofNat (48 + j % 10) :: l = m := by
  rw [Int.natAbs_neg, Int.natAbs_natCast] at *
  exact dig_step h hj

set_option maxHeartbeats 1000000 in
theorem spec_dectext (n : Int) (h0 : -9223372036854775808 ≤ n) (h1 : n ≤ 9223372036854775807) (w : World) :
    Calls Tryz.prog 71 #[.int .i64 n] w fun e w' => e = .returned (.string ⟨(Lib.itoa n).toArray⟩) ∧ w = w' := by
  by_cases hz : n = 0
  · subst hz
    go_enter Tryz.func71, Tryz.ntmps71
    go_wp2
    go_ret
    exact ⟨ret_string (a := [48]) (by decide +kernel), rfl⟩
  · have hz' : (n == 0) = false := by simpa using hz
    have hnl := dd_length (u := n.natAbs) (by omega)
    go_enter Tryz.func71, Tryz.ntmps71
    go_wp2
    go_loop [3, 4] (fun out m => ∃ (k : Int) (l : List UInt8), m = .int .i64 k ∧ out = .string ⟨l.toArray⟩ ∧ dd k.natAbs ++ l = dd n.natAbs ∧ (n < 0 → k ≤ 0) ∧ (0 < n → 0 ≤ k) ∧ k.natAbs ≤ n.natAbs) (fun _ m => (intOf m).natAbs)
    case atStart => exact ⟨n, [], rfl, rfl, by simp, by omega, by omega, by omega⟩
    case round =>
      obtain ⟨k, l, rfl, rfl, hl, hneg, hpos, hle⟩ := hrel
      have hll : l.length ≤ 20 := by
        have := congrArg List.length hl
        simp at this; omega
      by_cases hk : k = 0
      · subst hk
        have HM : l = dd n.natAbs := by simpa [dd_zero] using hl
        subst HM
        clear hl
        by_cases hn : n < 0
        · go_wp2
          go_ret
          exact ⟨fin_neg hn, rfl⟩
        · go_wp2
          go_ret
          exact ⟨fin_pos (by omega), rfl⟩
      · have hk' : (k != 0) = true := by simpa using hk
        have HL := Lib.hid hl
        clear hl
        by_cases hn : n < 0
        · obtain ⟨j, rfl⟩ : ∃ j : Nat, k = -(j : Int) := ⟨k.natAbs, by omega⟩
          have hm : (-(j : Int)).tmod 10 = -((j % 10 : Nat) : Int) := by rw [Int.neg_tmod]; rfl
          go_wp2
          · go_round
            case rel => exact ⟨-((j / 10 : Nat) : Int), _, by go_num, dig_string l j, dig_neg HL.out (by omega), by omega, by omega, by omega⟩
            case measure => simp [intOf]; omega
          · have hd : (-(j : Int) % 10) = 0 := by omega
            go_round
            case rel => exact ⟨-((j / 10 : Nat) : Int), UInt8.ofNat (48 + j % 10) :: l, by go_num, (by rw [show (-((j : Int) % 10)).toNat = j % 10 by omega, show (-((j : Int) % 10) + 1).toNat = j % 10 + 1 by omega]; exact dig_string l j), dig_neg HL.out (by omega), by omega, by omega, by omega⟩
            case measure => simp [intOf]; omega
        · obtain ⟨j, rfl⟩ : ∃ j : Nat, k = (j : Int) := ⟨k.natAbs, by omega⟩
          go_wp2
          go_round
          case rel => exact ⟨((j / 10 : Nat) : Int), _, by go_num, dig_string l j, dig_step HL.out (by omega), by omega, by omega, by omega⟩
          case measure => simp [intOf]; omega
end Go.Proofs.YtogdbfjagnbllaaGreatDoor

namespace Go.Proofs.YtogdbfjagnbllaaGreatDoor
open Go.RowKit

theorem digit_any (x : Int) (h0 : 0 ≤ x) (h1 : x ≤ 255) (w : World) :
    Calls Tryz.prog 113 #[.int .u8 x] w fun e w' => e = .returned (.bool (inB x 48 57)) ∧ w = w' := by
  go_enter Tryz.func113, Tryz.ntmps113
  go_wp2_with (go_at_call 112; refine (in_any _ _ _ _).mono ?_; rintro e w' ⟨rfl, rfl⟩)
  go_ret
  exact ⟨rfl, rfl⟩
theorem digit_u8 (c : UInt8) (w : World) :
    Calls Tryz.prog 113 #[.int .u8 (c.toNat : Int)] w fun e w' => e = .returned (.bool (inB (c.toNat : Int) 48 57)) ∧ w = w' :=
  digit_any _ (by omega) (by have := u8_le c; omega) w
end Go.Proofs.YtogdbfjagnbllaaGreatDoor

namespace Go.Proofs.YtogdbfjagnbllaaGreatDoor
open Go.RowKit

theorem hret_string {a b : List UInt8} (h : a = b) : Ending.returned (.string ⟨a.toArray⟩) = .returned (.string ⟨b.toArray⟩) := by rw [h]
theorem hdig_string (l : List UInt8) (j : Nat) : Value.string ((⟨#[48, 49, 50, 51, 52, 53, 54, 55, 56, 57, 97, 98, 99, 100, 101, 102]⟩ : ByteArray).extract (j % 16) (j % 16 + 1) ++ ⟨l.toArray⟩) = .string ⟨(hdig (j % 16) :: l).toArray⟩ := by
  rw [show (⟨#[48, 49, 50, 51, 52, 53, 54, 55, 56, 57, 97, 98, 99, 100, 101, 102]⟩ : ByteArray) = sixteen from rfl, sixteen_one (Nat.mod_lt _ (by decide)), ByteArray.mk_append_mk]
  simp
theorem hdig_step {j : Nat} {l m : List UInt8} (h : hh j ++ l = m) (hj : j ≠ 0) : hh (j / 16) ++ hdig (j % 16) :: l = m := by
  rw [hh_step hj] at h
  simpa using h

set_option maxHeartbeats 1000000 in
theorem spec_hextext (n : Nat) (h1 : n < 4294967296) (w : World) :
    Calls Tryz.prog 70 #[.int .u32 n] w fun e w' => e = .returned (.string ⟨(hexDigits n).toArray⟩) ∧ w = w' := by
  by_cases hz : n = 0
  · subst hz
    go_enter Tryz.func70, Tryz.ntmps70
    go_wp2
    go_ret
    exact ⟨hret_string (a := [48]) (by rw [hex_small (by decide)]; rfl), rfl⟩
  · have hz' : ((n : Int) == 0) = false := by simpa using hz
    have hnl := hh_length h1
    go_enter Tryz.func70, Tryz.ntmps70
    go_wp2
    go_loop [3, 4] (fun out m => ∃ (k : Nat) (l : List UInt8), m = .int .i64 k ∧ out = .string ⟨l.toArray⟩ ∧ hh k ++ l = hh n ∧ k ≤ n) (fun _ m => (intOf m).natAbs)
    case atStart => exact ⟨n, [], rfl, rfl, by simp, by omega⟩
    case round =>
      obtain ⟨k, l, rfl, rfl, hl, hle⟩ := hrel
      have hll : l.length ≤ 8 := by
        have := congrArg List.length hl
        simp at this; omega
      by_cases hk : k = 0
      · subst hk
        have HM : l = hh n := by simpa [hh_zero] using hl
        subst HM
        clear hl
        go_wp2
        go_ret
        exact ⟨hret_string (hh_pos hz), rfl⟩
      · have hk' : (0 : Int) < (k : Int) := by omega
        have HL := Lib.hid hl
        clear hl
        go_wp2
        go_round
        case rel => exact ⟨k / 16, _, by go_num, hdig_string l k, hdig_step HL.out (by omega), by omega⟩
        case measure => simp [intOf]; omega
end Go.Proofs.YtogdbfjagnbllaaGreatDoor

namespace Go.Proofs.YtogdbfjagnbllaaGreatDoor
open Go.RowKit Go

end Go.Proofs.YtogdbfjagnbllaaGreatDoor

namespace Go.Proofs.YtogdbfjagnbllaaGreatDoor
open Go.RowKit Go

/-- A copy of an item, where its box stands. -/
theorem box_mono {w w1 w2 : World} {o : Obj} (h1 : Below (w.heap.size + 1) (w.alloc o) w1) (h2 : Below w1.heap.size w1 w2) : Below (w.heap.size + 1) (w.alloc o) w2 :=
  h1.trans (h2.mono (by have := h1.size; simpa using this))
theorem box_start (w : World) (o : Obj) : Below (w.heap.size + 1) (w.alloc o) (w.alloc o) := Below.refl _ _
theorem box_below {w w1 : World} {o : Obj} (h : Below (w.heap.size + 1) (w.alloc o) w1) : Below w.heap.size w w1 := ((Below.refl _ _).alloc (Nat.le_refl _) _).trans (h.mono (by omega))

end Go.Proofs.YtogdbfjagnbllaaGreatDoor

namespace Go.Proofs.YtogdbfjagnbllaaGreatDoor
open Go.RowKit Go

theorem spec_mark (k : Int) (hk : 0 ≤ k ∧ k ≤ 9) (w : World) : Calls Tryz.prog 58 #[.int .i64 k] w fun e w' => e = .returned (.string ⟨#[markOf k]⟩) ∧ w = w' := by
  have ka : k = 0 ∨ k = 1 ∨ k = 2 ∨ k = 3 ∨ k = 4 ∨ k = 5 ∨ k = 6 ∨ k = 7 ∨ k = 8 ∨ k = 9 := by omega
  rcases ka with rfl | rfl | rfl | rfl | rfl | rfl | rfl | rfl | rfl | rfl <;>
    (go_enter Tryz.func58, Tryz.ntmps58
     go_wp2
     go_ret
     exact ⟨rfl, rfl⟩)

/-- What a text of an item answers. -/
abbrev TextEnd (l : List UInt8) (w : World) (e : Ending) (w' : World) : Prop := e = .returned (.string ⟨l.toArray⟩) ∧ Below w.heap.size w w'
abbrev OkT (k : Int) (nm : ByteArray) (n : Int) (x : Bool) (r : Int) (b : Bool) : Prop := Hid (∀ W, Calls Tryz.prog 21 #[itA k nm n x r] W fun e w' => e = .returned (.bool b) ∧ Below W.heap.size W w')
theorem str_end {a : ByteArray} {l : List UInt8} {w w' : World} (h : a.data.toList = l) (hb : Below w.heap.size w w') : TextEnd l w (.returned (.string a)) w' := ⟨by rw [← h], hb⟩

theorem st_no (k : Int) (nm : ByteArray) (n : Int) (x : Bool) (r : Int) (HO : OkT k nm n x r false) (w : World) :
    Calls Tryz.prog 40 #[itA k nm n x r] w (TextEnd [] w) := by
  go_enter Tryz.func40, Tryz.ntmps40
  go_wp2_with fail
  refine (HO.out _).mono ?_
  rintro e w1 ⟨rfl, hb1⟩
  have HX := Lib.hid (box_mono (box_start w _) (hb1.mono (by simp)))
  clear hb1
  go_wp2_with fail
  go_ret
  exact str_end rfl (box_below HX.out)

set_option maxHeartbeats 1000000 in
theorem st_word (k : Int) (hk : 1 ≤ k ∧ k ≤ 6) (nm : ByteArray) (hs : nm.size ≤ 4611686018427387904) (n : Int) (x : Bool) (r : Int) (HO : OkT k nm n x r true) (w : World) :
    Calls Tryz.prog 40 #[itA k nm n x r] w (TextEnd (markOf k :: nm.data.toList) w) := by
  have HM := Lib.hid (fun W => spec_mark k (by omega) W)
  have e7 : (k == 7) = false := by simp; omega
  have e8 : (k == 8) = false := by simp; omega
  have e9 : (k == 9) = false := by simp; omega
  have e0 : (k == 0) = false := by simp; omega
  obtain ⟨m, hm⟩ : ∃ m : ByteArray, (⟨#[markOf k]⟩ : ByteArray) = m := ⟨_, rfl⟩
  have hms : m.size = 1 := by rw [← hm]; rfl
  have HT := Lib.hid (show (m ++ nm).data.toList = markOf k :: nm.data.toList by rw [← hm]; simp)
  rw [hm] at HM
  clear hm hk
  go_enter Tryz.func40, Tryz.ntmps40
  go_wp2_with fail
  refine (HO.out _).mono ?_
  rintro e w1 ⟨rfl, hb1⟩
  have hx1 := box_mono (box_start w _) (hb1.mono (by simp))
  obtain ⟨c0, c1, c2, c3, c4⟩ := it_box hx1
  have HX := Lib.hid hx1
  clear hb1 hx1
  go_wp2_with fail
  refine (HM.out _).mono ?_
  rintro e w2 ⟨rfl, rfl⟩
  go_wp2_with fail
  go_ret
  exact str_end HT.out (box_below HX.out)

set_option maxHeartbeats 1000000 in
theorem st_raw (nm : ByteArray) (n : Int) (x : Bool) (r : Nat) (hr : r < 4294967296) (HO : OkT 0 nm n x r true) (w : World) :
    Calls Tryz.prog 40 #[itA 0 nm n x r] w (TextEnd (markOf 0 :: hexDigits r) w) := by
  have HM := Lib.hid (fun W => spec_mark 0 (by decide) W)
  obtain ⟨m, hm⟩ : ∃ m : ByteArray, (⟨#[markOf 0]⟩ : ByteArray) = m := ⟨_, rfl⟩
  have hms : m.size = 1 := by rw [← hm]; rfl
  obtain ⟨t, ht⟩ : ∃ t : ByteArray, (⟨(hexDigits r).toArray⟩ : ByteArray) = t := ⟨_, rfl⟩
  have hts : t.size ≤ 8 := by rw [← ht]; exact hex_len8 hr
  have HT := Lib.hid (show (m ++ t).data.toList = markOf 0 :: hexDigits r by rw [← hm, ← ht]; simp)
  have HH := Lib.hid (fun W => spec_hextext r hr W)
  rw [hm] at HM
  rw [ht] at HH
  clear hm ht hr
  go_enter Tryz.func40, Tryz.ntmps40
  go_wp2_with fail
  refine (HO.out _).mono ?_
  rintro e w1 ⟨rfl, hb1⟩
  have hx1 := box_mono (box_start w _) (hb1.mono (by simp))
  obtain ⟨c0, c1, c2, c3, c4⟩ := it_box hx1
  have HX := Lib.hid hx1
  clear hb1 hx1
  go_wp2_with fail
  refine (HM.out _).mono ?_
  rintro e w2 ⟨rfl, rfl⟩
  go_wp2_with fail
  refine (HH.out _).mono ?_
  rintro e w2 ⟨rfl, rfl⟩
  go_wp2_with fail
  go_ret
  exact str_end HT.out (box_below HX.out)

set_option maxHeartbeats 1000000 in
theorem st_hex7 (nm : ByteArray) (n : Int) (r : Int) (HO : OkT 7 nm n true r true) (w : World) :
    Calls Tryz.prog 40 #[itA 7 nm n true r] w (TextEnd (markOf 7 :: 36 :: hexDigits (lowN n)) w) := by
  have HM := Lib.hid (fun W => spec_mark 7 (by decide) W)
  obtain ⟨m, hm⟩ : ∃ m : ByteArray, (⟨#[markOf 7]⟩ : ByteArray) = m := ⟨_, rfl⟩
  have hms : m.size = 1 := by rw [← hm]; rfl
  obtain ⟨u, hu⟩ : ∃ u : Nat, lowN n = u := ⟨_, rfl⟩
  have hul : u < 4294967296 := by rw [← hu]; exact lowN_lt n
  have huw : IntKind.u32.wrap n = (u : Int) := by rw [← hu, IntKind.wrap_u32]; unfold lowN; omega
  obtain ⟨t, ht⟩ : ∃ t : ByteArray, (⟨(hexDigits u).toArray⟩ : ByteArray) = t := ⟨_, rfl⟩
  have hts : t.size ≤ 8 := by rw [← ht]; exact hex_len8 hul
  have HT := Lib.hid (show ((m ++ ⟨#[36]⟩) ++ t).data.toList = markOf 7 :: 36 :: hexDigits u by rw [← hm, ← ht]; simp)
  have HH := Lib.hid (fun W => spec_hextext u hul W)
  rw [hu]
  rw [hm] at HM
  rw [ht] at HH
  clear hm ht hu hul
  go_enter Tryz.func40, Tryz.ntmps40
  go_wp2_with fail
  refine (HO.out _).mono ?_
  rintro e w1 ⟨rfl, hb1⟩
  have hx1 := box_mono (box_start w _) (hb1.mono (by simp))
  obtain ⟨c0, c1, c2, c3, c4⟩ := it_box hx1
  have HX := Lib.hid hx1
  clear hb1 hx1
  go_wp2_with fail
  refine (HM.out _).mono ?_
  rintro e w2 ⟨rfl, rfl⟩
  go_wp2_with fail
  try rw [huw]
  refine (HH.out _).mono ?_
  rintro e w2 ⟨rfl, rfl⟩
  go_wp2_with fail
  go_ret
  exact str_end HT.out (box_below HX.out)

set_option maxHeartbeats 1000000 in
theorem st_dec7 (nm : ByteArray) (n : Int) (hn : -2147483648 ≤ n ∧ n ≤ 2147483647) (r : Int) (HO : OkT 7 nm n false r true) (w : World) :
    Calls Tryz.prog 40 #[itA 7 nm n false r] w (TextEnd (markOf 7 :: 35 :: Lib.itoa n) w) := by
  have HM := Lib.hid (fun W => spec_mark 7 (by decide) W)
  obtain ⟨m, hm⟩ : ∃ m : ByteArray, (⟨#[markOf 7]⟩ : ByteArray) = m := ⟨_, rfl⟩
  have hms : m.size = 1 := by rw [← hm]; rfl
  have hnw : IntKind.i64.wrap n = n := by rw [IntKind.wrap_i64]; omega
  obtain ⟨t, ht⟩ : ∃ t : ByteArray, (⟨(Lib.itoa n).toArray⟩ : ByteArray) = t := ⟨_, rfl⟩
  have hts : t.size ≤ 11 := by rw [← ht]; exact itoa_len (by omega) (by omega)
  have HT := Lib.hid (show ((m ++ ⟨#[35]⟩) ++ t).data.toList = markOf 7 :: 35 :: Lib.itoa n by rw [← hm, ← ht]; simp)
  have HH := Lib.hid (fun W => spec_dectext n (by omega) (by omega) W)
  rw [hm] at HM
  rw [ht] at HH
  clear hm ht
  go_enter Tryz.func40, Tryz.ntmps40
  go_wp2_with fail
  refine (HO.out _).mono ?_
  rintro e w1 ⟨rfl, hb1⟩
  have hx1 := box_mono (box_start w _) (hb1.mono (by simp))
  obtain ⟨c0, c1, c2, c3, c4⟩ := it_box hx1
  have HX := Lib.hid hx1
  clear hb1 hx1
  go_wp2_with fail
  refine (HM.out _).mono ?_
  rintro e w2 ⟨rfl, rfl⟩
  go_wp2_with fail
  try rw [hnw]
  refine (HH.out _).mono ?_
  rintro e w2 ⟨rfl, rfl⟩
  go_wp2_with fail
  go_ret
  exact str_end HT.out (box_below HX.out)

set_option maxHeartbeats 1000000 in
theorem st_hex8 (nm : ByteArray) (n : Int) (r : Int) (HO : OkT 8 nm n true r true) (w : World) :
    Calls Tryz.prog 40 #[itA 8 nm n true r] w (TextEnd (markOf 8 :: 36 :: hexDigits (lowN n)) w) := by
  have HM := Lib.hid (fun W => spec_mark 8 (by decide) W)
  obtain ⟨m, hm⟩ : ∃ m : ByteArray, (⟨#[markOf 8]⟩ : ByteArray) = m := ⟨_, rfl⟩
  have hms : m.size = 1 := by rw [← hm]; rfl
  obtain ⟨u, hu⟩ : ∃ u : Nat, lowN n = u := ⟨_, rfl⟩
  have hul : u < 4294967296 := by rw [← hu]; exact lowN_lt n
  have huw : IntKind.u32.wrap n = (u : Int) := by rw [← hu, IntKind.wrap_u32]; unfold lowN; omega
  obtain ⟨t, ht⟩ : ∃ t : ByteArray, (⟨(hexDigits u).toArray⟩ : ByteArray) = t := ⟨_, rfl⟩
  have hts : t.size ≤ 8 := by rw [← ht]; exact hex_len8 hul
  have HT := Lib.hid (show ((m ++ ⟨#[36]⟩) ++ t).data.toList = markOf 8 :: 36 :: hexDigits u by rw [← hm, ← ht]; simp)
  have HH := Lib.hid (fun W => spec_hextext u hul W)
  rw [hu]
  rw [hm] at HM
  rw [ht] at HH
  clear hm ht hu hul
  go_enter Tryz.func40, Tryz.ntmps40
  go_wp2_with fail
  refine (HO.out _).mono ?_
  rintro e w1 ⟨rfl, hb1⟩
  have hx1 := box_mono (box_start w _) (hb1.mono (by simp))
  obtain ⟨c0, c1, c2, c3, c4⟩ := it_box hx1
  have HX := Lib.hid hx1
  clear hb1 hx1
  go_wp2_with fail
  refine (HM.out _).mono ?_
  rintro e w2 ⟨rfl, rfl⟩
  go_wp2_with fail
  try rw [huw]
  refine (HH.out _).mono ?_
  rintro e w2 ⟨rfl, rfl⟩
  go_wp2_with fail
  go_ret
  exact str_end HT.out (box_below HX.out)

set_option maxHeartbeats 1000000 in
theorem st_dec8 (nm : ByteArray) (n : Int) (hn : -2147483648 ≤ n ∧ n ≤ 2147483647) (r : Int) (HO : OkT 8 nm n false r true) (w : World) :
    Calls Tryz.prog 40 #[itA 8 nm n false r] w (TextEnd (markOf 8 :: 35 :: Lib.itoa n) w) := by
  have HM := Lib.hid (fun W => spec_mark 8 (by decide) W)
  obtain ⟨m, hm⟩ : ∃ m : ByteArray, (⟨#[markOf 8]⟩ : ByteArray) = m := ⟨_, rfl⟩
  have hms : m.size = 1 := by rw [← hm]; rfl
  have hnw : IntKind.i64.wrap n = n := by rw [IntKind.wrap_i64]; omega
  obtain ⟨t, ht⟩ : ∃ t : ByteArray, (⟨(Lib.itoa n).toArray⟩ : ByteArray) = t := ⟨_, rfl⟩
  have hts : t.size ≤ 11 := by rw [← ht]; exact itoa_len (by omega) (by omega)
  have HT := Lib.hid (show ((m ++ ⟨#[35]⟩) ++ t).data.toList = markOf 8 :: 35 :: Lib.itoa n by rw [← hm, ← ht]; simp)
  have HH := Lib.hid (fun W => spec_dectext n (by omega) (by omega) W)
  rw [hm] at HM
  rw [ht] at HH
  clear hm ht
  go_enter Tryz.func40, Tryz.ntmps40
  go_wp2_with fail
  refine (HO.out _).mono ?_
  rintro e w1 ⟨rfl, hb1⟩
  have hx1 := box_mono (box_start w _) (hb1.mono (by simp))
  obtain ⟨c0, c1, c2, c3, c4⟩ := it_box hx1
  have HX := Lib.hid hx1
  clear hb1 hx1
  go_wp2_with fail
  refine (HM.out _).mono ?_
  rintro e w2 ⟨rfl, rfl⟩
  go_wp2_with fail
  try rw [hnw]
  refine (HH.out _).mono ?_
  rintro e w2 ⟨rfl, rfl⟩
  go_wp2_with fail
  go_ret
  exact str_end HT.out (box_below HX.out)

set_option maxHeartbeats 1000000 in
theorem st_var (nm : ByteArray) (hs : nm.size ≤ 24) (n : Int) (hn : -2147483648 ≤ n ∧ n ≤ 2147483647) (x : Bool) (r : Int) (HO : OkT 9 nm n x r true) (w : World) :
    Calls Tryz.prog 40 #[itA 9 nm n x r] w (TextEnd (markOf 9 :: (nm.data.toList ++ 35 :: Lib.itoa n)) w) := by
  have HM := Lib.hid (fun W => spec_mark 9 (by decide) W)
  obtain ⟨m, hm⟩ : ∃ m : ByteArray, (⟨#[markOf 9]⟩ : ByteArray) = m := ⟨_, rfl⟩
  have hms : m.size = 1 := by rw [← hm]; rfl
  have hnw : IntKind.i64.wrap n = n := by rw [IntKind.wrap_i64]; omega
  obtain ⟨t, ht⟩ : ∃ t : ByteArray, (⟨(Lib.itoa n).toArray⟩ : ByteArray) = t := ⟨_, rfl⟩
  have hts : t.size ≤ 11 := by rw [← ht]; exact itoa_len (by omega) (by omega)
  have HT := Lib.hid (show (((m ++ nm) ++ ⟨#[35]⟩) ++ t).data.toList = markOf 9 :: (nm.data.toList ++ 35 :: Lib.itoa n) by rw [← hm, ← ht]; simp)
  have HH := Lib.hid (fun W => spec_dectext n (by omega) (by omega) W)
  rw [hm] at HM
  rw [ht] at HH
  have s1 : (9223372036854775807 < m.size + nm.size) = False := eq_false (by omega)
  have s2 : (9223372036854775807 < m.size + nm.size + 1) = False := eq_false (by omega)
  have s3 : (9223372036854775807 < m.size + nm.size + 1 + t.size) = False := eq_false (by omega)
  clear hm ht hms
  go_enter Tryz.func40, Tryz.ntmps40
  go_wp2_with fail
  refine (HO.out _).mono ?_
  rintro e w1 ⟨rfl, hb1⟩
  have hx1 := box_mono (box_start w _) (hb1.mono (by simp))
  obtain ⟨c0, c1, c2, c3, c4⟩ := it_box hx1
  have HX := Lib.hid hx1
  clear hb1 hx1
  go_wp2_with fail
  refine (HM.out _).mono ?_
  rintro e w2 ⟨rfl, rfl⟩
  go_wp2_with fail
  go_quiet (exact Calls.quiet_of_same ((HH.out _).mono fun e w2 ⟨h1, h2⟩ => ⟨h1, h2.symm⟩))
  go_wp2_with fail
  go_ret
  exact str_end HT.out (below_drewN (box_below HX.out) _)

theorem nameL_size {nm : ByteArray} (h : nameL nm.data.toList = true) : nm.size ≤ 24 := by
  have := (of_decide_eq_true h).2.1
  simpa using this
/-- The model's text of an item is the plain one. -/
theorem spec_itemtext (it : It) (hin : ItIn it) (w : World) : Calls Tryz.prog 40 #[itVal it] w (TextEnd (textOf it) w) := by
  have HO := Lib.hid (fun W => spec_itemok it hin W)
  by_cases hc : cellsOf it = []
  · rw [text_no hc]
    rw [show decide (cellsOf it ≠ []) = false from decide_eq_false (fun h => h hc)] at HO
    exact st_no _ _ _ _ _ HO w
  · rw [text_yes hc]
    rw [show decide (cellsOf it ≠ []) = true from decide_eq_true hc] at HO
    have hf := form_of hc
    obtain ⟨k, nm, n, x, r⟩ := it
    have n1 := hin.n1
    have n2 := hin.n2
    have hr := hin.r
    simp only at n1 n2 hr
    rcases hf with ⟨h0, _⟩ | ⟨h0, _⟩ | ⟨h0, _, _, h3⟩ | ⟨h0, _, _, _, h4⟩ <;> simp only at h0
    · rw [tail_raw h0]
      subst h0
      exact st_raw nm n x r hr HO w
    · rw [tail_num h0]
      rcases h0 with rfl | rfl <;> cases x
      · exact st_dec7 nm n ⟨n1, n2⟩ _ HO w
      · exact st_hex7 nm n _ HO w
      · exact st_dec8 nm n ⟨n1, n2⟩ _ HO w
      · exact st_hex8 nm n _ HO w
    · rw [tail_var h0]
      subst h0
      exact st_var nm (nameL_size h3) n ⟨n1, n2⟩ x _ HO w
    · rw [tail_word h0]
      exact st_word k h0 nm hin.s n x _ HO w
end Go.Proofs.YtogdbfjagnbllaaGreatDoor

namespace Go.Proofs.YtogdbfjagnbllaaGreatDoor
open Go.ChangeShapes Go.WideShapes Go.ChangeAt Go.RowKit

theorem gPow : Tryz.prog.globalNamed "internal/strconv.uint64pow10" = some 2 := by kernel_rfl
theorem tPow : (Tryz.prog.globals[2]?).map (·.type) = some 173 := by kernel_rfl
theorem pow_eq : Rows.laid_internal_strconv_uint64pow10 = Lib.tabData (H := Unit) .u64 Lib.pow10Tab := by kernel_rfl
theorem cPow : Tryz.prog.cellsOf 173 = 20 := by kernel_rfl
theorem cPowE : Tryz.prog.cellsOf 110 = 1 := by kernel_rfl

abbrev tabs : List (String × DataW Unit) := [("math/bits.deBruijn32tab", Rows.laid_math_bits_deBruijn32tab), ("math/bits.deBruijn64tab", Rows.laid_math_bits_deBruijn64tab), ("internal/strconv.uint64pow10", Rows.laid_internal_strconv_uint64pow10)]

theorem pow_of_laid {W : World} {rest : List (String × DataW Unit)} (h : laidMet Tryz.prog (tabs ++ rest) W) : Lib.TabIs Tryz.prog W "internal/strconv.uint64pow10" .u64 Lib.pow10Tab := by
  have h2 := (laidMet.tail (laidMet.tail h))
  rw [pow_eq] at h2
  exact Lib.tabIs_of_head gPow tPow Tryz.underlying173 Tryz.underlying110 cPowE cPow h2
theorem tab_below {W W' : World} (h : Lib.TabIs Tryz.prog W "internal/strconv.uint64pow10" .u64 Lib.pow10Tab) (hb : Below W.heap.size W W') : Lib.TabIs Tryz.prog W' "internal/strconv.uint64pow10" .u64 Lib.pow10Tab := var?_below h hb
def debTab : List Int := [0, 1, 56, 2, 57, 49, 28, 3, 61, 58, 42, 50, 38, 29, 17, 4, 62, 47, 59, 36, 45, 43, 51, 22, 53, 39, 33, 30, 24, 18, 12, 5, 63, 55, 48, 27, 60, 41, 37, 16, 46, 35, 44, 21, 52, 32, 23, 11, 54, 26, 40, 15, 34, 20, 31, 10, 25, 14, 19, 9, 13, 8, 7, 6]
theorem gDeb : Tryz.prog.globalNamed "math/bits.deBruijn64tab" = some 7 := by kernel_rfl
theorem tDeb : (Tryz.prog.globals[7]?).map (·.type) = some 192 := by kernel_rfl
theorem deb_eq : Rows.laid_math_bits_deBruijn64tab = Lib.tabData (H := Unit) .u8 debTab := by kernel_rfl
theorem cDeb : Tryz.prog.cellsOf 192 = 64 := by kernel_rfl
theorem cDebE : Tryz.prog.cellsOf 5 = 1 := by kernel_rfl
/-- What math/bits reads of its table where it is asked for 16. -/
theorem deb_of_laid {W : World} {rest : List (String × DataW Unit)} (h : laidMet Tryz.prog (tabs ++ rest) W) : W.cell? ⟨7, 15, none⟩ = some (.int .u8 4) ∧ 7 < W.heap.size := by
  have h2 := laidMet.tail h
  rw [deb_eq] at h2
  have ht : Lib.TabIs Tryz.prog W "math/bits.deBruijn64tab" .u8 debTab := Lib.tabIs_of_head gDeb tDeb Tryz.underlying192 Tryz.underlying5 cDebE cDeb h2
  have hc : W.cell? ⟨7, 15, none⟩ = some (.int .u8 4) := ht.cell gDeb 15 (by decide)
  refine ⟨hc, ?_⟩
  rcases Nat.lt_or_ge 7 W.heap.size with hl | hl
  · exact hl
  · have e : W.heap[7]? = none := Array.getElem?_eq_none hl
    simp [World.cell?, e] at hc
/-- The door's own heap meets the condition. -/
theorem tabs_met (os : Os) (args : Array Value) : laidMetH Tryz.prog tabs ((World.doorLaid Tryz.prog 400 os).forCall (fun _ _ => 0) ⟨#[], args, []⟩).memory :=
  laidMetH_of_parts3 (fuel := 8) (laidMet_of_run' 8 (by kernel_rfl) (by kernel_rfl)) (by kernel_rfl) (by kernel_rfl)
theorem tabs_plain (W : World) : laidMetH Tryz.prog tabs W = laidMet Tryz.prog (tabs ++ []) W := MakeChecks.laidMetH_plain _ _ _ (by kernel_rfl)
end Go.Proofs.YtogdbfjagnbllaaGreatDoor

namespace Go.Proofs.YtogdbfjagnbllaaGreatDoor
open Go.RowKit

theorem impl_dectext (n : Int) (h0 : -9223372036854775808 ≤ n) (h1 : n ≤ 9223372036854775807) (w : World) (ht : Lib.TabIs Tryz.prog w "internal/strconv.uint64pow10" .u64 Lib.pow10Tab) :
    Calls Tryz.prog 56 #[.int .i64 n] w fun e w' => e = .returned (.string ⟨(Lib.itoa n).toArray⟩) ∧ Below w.heap.size w w' := by
  have HT := Lib.hid ht
  clear ht
  go_enter Tryz.func56, Tryz.ntmps56
  go_wp2_with (go_at_call 83; refine (Tryz.strconv_Itoa n h0 h1 _ HT.out).mono ?_; rintro e w' ⟨rfl, k, os, hw⟩)
  go_ret
  exact ⟨rfl, hw ▸ below_regrow w k os⟩
end Go.Proofs.YtogdbfjagnbllaaGreatDoor

namespace Go.Proofs.YtogdbfjagnbllaaGreatDoor
open Go.RowKit

theorem pow2_sixteen (w : World) : Calls Tryz.prog 148 #[.int .i64 16] w fun e w' => e = .returned (.bool true) ∧ w = w' := by
  have hb : bits .and .i64 16 15 = 0 := by kernel_rfl
  go_enter Tryz.func148, Tryz.ntmps148
  go_wp2
  go_ret
  exact ⟨rfl, rfl⟩
theorem tz64_sixteen (w : World) (ht : w.cell? ⟨7, 15, none⟩ = some (.int .u8 4)) : Calls Tryz.prog 165 #[.int .u64 16] w fun e w' => e = .returned (.int .i64 4) ∧ w = w' := by
  have hb : bits .and .u64 16 (IntKind.u64.wrap (-16)) = 16 := by kernel_rfl
  go_enter Tryz.func165, Tryz.ntmps165
  go_wp2
  go_ret
  exact ⟨rfl, rfl⟩
theorem tz_sixteen (w : World) (ht : w.cell? ⟨7, 15, none⟩ = some (.int .u8 4)) : Calls Tryz.prog 149 #[.int .u64 16] w fun e w' => e = .returned (.int .i64 4) ∧ w = w' := by
  have HC := Lib.hid (tz64_sixteen w ht)
  clear ht
  go_enter Tryz.func149, Tryz.ntmps149
  go_wp2_with (go_at_call 165; refine HC.out.mono ?_; rintro e w' ⟨rfl, rfl⟩)
  go_ret
  exact ⟨rfl, rfl⟩

/-- The library's text of digits. -/
def d36 : ByteArray := ⟨#[48, 49, 50, 51, 52, 53, 54, 55, 56, 57, 97, 98, 99, 100, 101, 102, 103, 104, 105, 106, 107, 108, 109, 110, 111, 112, 113, 114, 115, 116, 117, 118, 119, 120, 121, 122]⟩
theorem d36_fin : ∀ i : Fin 16, d36.data.toList[i.val]? = some (hdig i.val) := by decide +kernel
theorem d36_size : d36.size = 36 := by decide +kernel
theorem d36_at (i : Nat) (h : i < 16) (hl : i < d36.size) : d36[i] = hdig i := by
  have := d36_fin ⟨i, h⟩
  have hl : i < d36.data.toList.length := hl
  rw [List.getElem?_eq_getElem hl] at this
  injection this with this

def encB (c : UInt8) : Value := .int .u8 (c.toNat : Int)
/-- Where a conversion stands: v is left, t is written from place j on. -/
structure FB (w : World) (n v j : Nat) (A : Array Value) (t : List UInt8) (wr : World) : Prop where
  blk : Blk wr w.heap.size 174 A
  size : A.size = 65
  tail : A.toList.drop j = t.map encB
  len : j + t.length = 65
  digs : hexDigits v ++ t = hexDigits n
  below : Below w.heap.size w wr
theorem drop_set (A : Array Value) (m : Nat) (x : Value) (h : m < A.size) : (A.setIfInBounds m x).toList.drop m = x :: A.toList.drop (m + 1) := by
  rw [Array.toList_setIfInBounds, List.drop_set, if_neg (by omega), Nat.sub_self, List.drop_eq_getElem_cons (by simpa using h)]
  rfl
theorem FB.pos {w wr : World} {n v j : Nat} {A : Array Value} {t : List UInt8} (h : FB w n v j A t wr) (hn : (hexDigits n).length ≤ 8) : 1 ≤ j ∧ j ≤ 65 := by
  have h1 := congrArg List.length h.digs
  have h2 := h.len
  rw [List.length_append] at h1
  have h3 := List.length_pos_iff.2 (hex_ne v)
  omega
theorem FB.store {w wr : World} {n v m : Nat} {A : Array Value} {t : List UInt8} (h : FB w n v (m + 1) A t wr) (d : Nat) :
    Blk (wr.setCell ⟨w.heap.size, m, none⟩ (encB (hdig d))) w.heap.size 174 (A.setIfInBounds m (encB (hdig d))) ∧ (A.setIfInBounds m (encB (hdig d))).size = 65 ∧ (A.setIfInBounds m (encB (hdig d))).toList.drop m = (hdig d :: t).map encB ∧ m + (hdig d :: t).length = 65 ∧ Below w.heap.size w (wr.setCell ⟨w.heap.size, m, none⟩ (encB (hdig d))) := by
  have hl := h.len
  have hz := h.size
  refine ⟨h.blk.put _ _, by simpa using hz, ?_, by simp; omega, h.below.setCell (Nat.le_refl _) _⟩
  rw [drop_set _ _ _ (by omega), h.tail]
  rfl
theorem FB.step {w wr : World} {n v m : Nat} {A : Array Value} {t : List UInt8} (h : FB w n v (m + 1) A t wr) (hv : 16 ≤ v) :
    FB w n (v / 16) m (A.setIfInBounds m (encB (hdig (v % 16)))) (hdig (v % 16) :: t) (wr.setCell ⟨w.heap.size, m, none⟩ (encB (hdig (v % 16)))) := by
  have hd := h.digs
  rw [hex_big (by omega)] at hd
  have hd' : hexDigits (v / 16) ++ hdig (v % 16) :: t = hexDigits n := by simpa using hd
  obtain ⟨a, b, c, d, e⟩ := h.store (v % 16)
  exact ⟨a, b, c, d, hd', e⟩
theorem FB.cell {w wr : World} {n v m : Nat} {A : Array Value} {t : List UInt8} (h : FB w n v (m + 1) A t wr) : ∃ u, wr.cell? ⟨w.heap.size, m, none⟩ = some u ∧ wr.frozen? ⟨w.heap.size, m, none⟩ = false := by
  have hl := h.len
  have hz := h.size
  exact ⟨A[m], by rw [h.blk.cell, Array.getElem?_eq_getElem (by omega)], h.blk.frozen m⟩
theorem and15 (v : Nat) (h : v < 4294967296) : bits .and .u64 (v : Int) 15 = ((v % 16 : Nat) : Int) := by
  rw [show (15 : Int) = ((15 : Nat) : Int) from rfl, u64_and_nat v 15 (by omega) (by omega), show (15 : Nat) = 2 ^ 4 - 1 from rfl, Nat.and_two_pow_sub_one_eq_mod]

set_option maxRecDepth 100000 in
set_option maxHeartbeats 2000000 in
theorem formatbits16 (n : Nat) (h1 : n < 4294967296) (w : World) (ht : w.cell? ⟨7, 15, none⟩ = some (.int .u8 4)) (hg : 7 < w.heap.size) :
    Calls Tryz.prog 129 #[.slice none 0 0, .int .u64 n, .int .i64 16, .bool false, .bool false] w fun e w' => e = .returned (.tuple #[.slice none 0 0, .string ⟨(hexDigits n).toArray⟩]) ∧ Below w.heap.size w w' := by
  have hnl := hex_len8 h1
  have HT : ∀ o, Hid ((w.alloc o).cell? ⟨7, 15, none⟩ = some (.int .u8 4)) := fun o => Lib.hid ((World.cell?_alloc_lt w o ⟨7, 15, none⟩ hg).trans ht)
  clear ht hg
  go_enter Tryz.func129, Tryz.ntmps129
  go_wp2_with (first | (go_at_call 148; refine (pow2_sixteen _).mono ?_; rintro e w' ⟨rfl, rfl⟩) | (go_at_call 149; refine (tz_sixteen _ (HT _).out).mono ?_; rintro e w' ⟨rfl, rfl⟩))
  have HT := True.intro
  go_loopw [1, 13] (fun u i wr => ∃ (v j : Nat) (A : Array Value) (t : List UInt8), u = .int .u64 v ∧ i = .int .i64 j ∧ v ≤ n ∧ FB w n v j A t wr) (fun u _ _ => (intOf u).toNat)
  case atStart => exact ⟨n, 65, _, [], rfl, rfl, Nat.le_refl _, Blk.new _ _ _, by kernel_rfl, by simp, by simp, by simp, (Below.refl _ _).alloc (Nat.le_refl _) _⟩
  case round =>
    obtain ⟨v, j, A, t, rfl, rfl, hv, hF⟩ := hrel
    obtain ⟨m, rfl⟩ : ∃ m, j = m + 1 := ⟨j - 1, by have := hF.pos hnl; omega⟩
    have hm : m ≤ 64 := by have := hF.pos hnl; omega
    obtain ⟨u, hc, hf⟩ := hF.cell
    by_cases h16 : 16 ≤ v
    · have h16' : (16 : Int) ≤ (v : Int) := by omega
      have ha := and15 v (by omega)
      have hs := hF.step h16
      unfold encB at hs
      rw [← d36_at (v % 16) (by omega) (by rw [d36_size]; omega)] at hs
      have HS := Lib.hid hs
      clear hs hF
      go_wp2
      go_roundw
      case rel => exact ⟨v / 16, m, _, _, by go_num, rfl, by omega, HS.out⟩
      case measure => simp [intOf]; omega
    · have h16' : (v : Int) < 16 := by omega
      have hb : v < d36.size := by rw [d36_size]; omega
      obtain ⟨s1, s2, s3, s4, s5⟩ := hF.store v
      have hd := hF.digs
      rw [hex_small (by omega)] at hd
      have hl1 : hdig v :: t = hexDigits n := hd
      rw [hl1] at s3 s4
      have hval : encB (hdig v) = .int .u8 ((d36[v].toNat : Nat) : Int) := by rw [d36_at v (by omega) hb]; rfl
      rw [hval] at s1 s5 s3 s2
      have hsl : ∀ W, (Instr.sliceAt 174 (.pointer (some ⟨w.heap.size, 0, none⟩)) (some (.int .i64 (m : Int))) none none).run Tryz.prog W = .ok (.slice (some ⟨w.heap.size, m, none⟩) (hexDigits n).length (65 - m)) W := fun W => by
        have hal : Tryz.prog.arrayLen 174 = 65 := by kernel_rfl
        rw [run_sliceAt_array_l W 174 ⟨w.heap.size, 0, none⟩ (by kernel_rfl) .i64 (m : Int) (by omega) (by rw [hal]; omega), hal]
        go_simp
        omega
      have hcv := run_convert_bytes_back (P := Tryz.prog) (wr.setCell ⟨w.heap.size, m, none⟩ (.int .u8 ((d36[v].toNat : Nat) : Int))) 22 9 5 ⟨w.heap.size, m, none⟩ (65 - m) (hexDigits n) Tryz.underlying22 Tryz.underlying5 Tryz.underlying9 (fun j hj => by
        have e : (⟨w.heap.size, m, none⟩ : Addr).add j = ⟨w.heap.size, m + j, none⟩ := by unfold Addr.add; split <;> simp_all
        rw [e, s1.cell]
        have h1 := congrArg (·[j]?) s3
        simp only [List.getElem?_drop, List.getElem?_map, List.getElem?_eq_getElem hj, Option.map_some, Array.getElem?_toList] at h1
        exact h1)
      have S5 := Lib.hid s5
      clear s1 s2 s3 s4 s5 hd hl1 hval hF
      go_wp2
      change Oper.upon _ _ _ _ _ (Result.andThen (Sem.run _ _ (wr.setCell _ (.int .u8 ((d36[v].toNat : Nat) : Int)))) _)
      rw [hcv]
      go_wp2
      go_ret2
      exact ⟨rfl, S5.out⟩
end Go.Proofs.YtogdbfjagnbllaaGreatDoor
