/-
  The text of an item, as a plain function, and that an item's text tells the item.
  spec.DecText answers the number's decimal numeral, at every int.
  The model's small test: spec.l01In answers whether a number lies between two.
  The model's small test: spec.l01Digit answers whether a byte is a digit.
  spec.HexText answers the number's digits in base 16, at every uint32.
  From a walk that ends in 'true' and 'nothing that was there has changed' to what a law's row says behind the call, at every program and every shape of the arguments.
  What every row of this seat asks of the program as a whole.
  Package-level tables of numbers of which nothing is known but that they hold numbers of their kinds.
  The letters: LetterAt, WidthOf and LetterOf, of the program and of its model, answer the plain functions.
  The letters: WidthOf and LetterOf, of the program and of its model, answer the plain functions.
  NameOk, of the program and of its model, tells whether a text is a name.
  BitsOf of the model answers a letter's code.
  A block that is known whole: what it holds, and how it is kept.
-/
import Derived.Test.YtogdbfjagnbllaaGreatDoorRI1
import Derived.Test.YtogdbfjagnbllaaGreatDoorProg
import Derived.WalkKit
import Derived.WalkSpells
import Derived.Lib.Hide
import Derived.Lib.ItoaMem
import Derived.LoopTactic
import Derived.ProofKit
import Derived.LaidMore
import Derived.OpenShut
import Derived.Stop.Joined
import Derived.Sort.Grow
import Derived.Deep.Draws
import Derived.OpenVars
import Derived.ChangeVars
import Derived.Test.YtogdbfjagnbllaaGreatDoorRows
import Derived.MakeChecks
import GoSem.Claims
import Derived.Test.YtogdbfjagnbllaaGreatDoorShelf
import Derived.Deep.QuietTactic
import Derived.BigQuiet
import Derived.Below
import Derived.Laws.Rows
namespace Go.Proofs.YtogdbfjagnbllaaGreatDoor
open Go

/-- The mark of a kind. -/
def markOf (k : Int) : UInt8 := if k = 1 ∨ k = 7 then 126 else if k = 2 then 58 else if k = 3 ∨ k = 8 then 61 else if k = 4 then 34 else if k = 5 then 94 else if k = 6 then 95 else if k = 9 then 38 else 37
/-- What stands behind the mark. -/
def tailOf (it : It) : List UInt8 :=
  if it.kind = 7 ∨ it.kind = 8 then (if it.hex = true then 36 :: hexDigits (lowN it.n) else 35 :: Lib.itoa it.n)
  else if it.kind = 9 then it.name.data.toList ++ 35 :: Lib.itoa it.n
  else if it.kind = 0 then hexDigits it.raw
  else it.name.data.toList
def textOf (it : It) : List UInt8 := if cellsOf it = [] then [] else markOf it.kind :: tailOf it

/-- The forms of an item that has cells. -/
def ItForm (it : It) : Prop :=
  (it.kind = 0 ∧ it.name = noText ∧ it.n = 0 ∧ it.hex = false) ∨ ((it.kind = 7 ∨ it.kind = 8) ∧ it.name = noText ∧ it.raw = 0) ∨
  (it.kind = 9 ∧ it.hex = false ∧ it.raw = 0 ∧ nameL it.name.data.toList = true) ∨ ((1 ≤ it.kind ∧ it.kind ≤ 6) ∧ it.n = 0 ∧ it.hex = false ∧ it.raw = 0 ∧ nameL it.name.data.toList = true)
theorem packs_name {l : List UInt8} (h : packs l ≠ []) : nameL l = true := by
  by_cases hn : nameL l = true
  · exact hn
  · exact absurd (packs_no (by simpa using hn)) h
theorem form_of {it : It} (h : cellsOf it ≠ []) : ItForm it := by
  obtain ⟨k, nm, n, x, r⟩ := it
  unfold cellsOf at h
  unfold ItForm
  simp only at h ⊢
  by_cases h0 : k = 0
  · rw [if_pos h0] at h
    split at h
    · rename_i hc; exact .inl ⟨h0, hc⟩
    · exact absurd rfl h
  · rw [if_neg h0] at h
    by_cases h7 : k = 7 ∨ k = 8
    · rw [if_pos h7] at h
      split at h
      · rename_i hc; exact .inr (.inl ⟨h7, hc⟩)
      · exact absurd rfl h
    · rw [if_neg h7] at h
      by_cases h9 : k = 9
      · rw [if_pos h9] at h
        split at h
        · rename_i hc
          refine .inr (.inr (.inl ⟨h9, hc.1, hc.2, packs_name fun e => h ?_⟩))
          rw [e]; rfl
        · exact absurd rfl h
      · rw [if_neg h9] at h
        split at h
        · rename_i h16
          split at h
          · rename_i hc
            refine .inr (.inr (.inr ⟨h16, hc.1, hc.2.1, hc.2.2, packs_name fun e => h ?_⟩))
            rw [e]; rfl
          · exact absurd rfl h
        · exact absurd rfl h
theorem nameL_noHash {l : List UInt8} (h : nameL l = true) : (35 : UInt8) ∉ l ∧ (36 : UInt8) ∉ l ∧ l ≠ [] :=
  ⟨fun hm => by have := nameL_bytes h _ hm; revert this; decide +kernel, fun hm => by have := nameL_bytes h _ hm; revert this; decide +kernel, fun e => by
    have := (of_decide_eq_true h).1
    rw [e] at this; simp at this⟩
theorem split_inj {c : UInt8} : ∀ {a b r s : List UInt8}, c ∉ a → c ∉ b → a ++ c :: r = b ++ c :: s → a = b ∧ r = s
  | [], [], _, _, _, _, h => by simpa using h
  | [], y :: b, _, _, _, hb, h => by
    simp only [List.nil_append, List.cons_append, List.cons.injEq] at h
    exact absurd (by rw [h.1]; simp) hb
  | x :: a, [], _, _, ha, _, h => by
    simp only [List.nil_append, List.cons_append, List.cons.injEq] at h
    exact absurd (by rw [← h.1]; simp) ha
  | x :: a, y :: b, r, s, ha, hb, h => by
    simp only [List.cons_append, List.cons.injEq] at h
    obtain ⟨e1, e2⟩ := split_inj (fun hm => ha (by simp [hm])) (fun hm => hb (by simp [hm])) h.2
    exact ⟨by rw [h.1, e1], e2⟩
theorem bytes_of_list {a b : ByteArray} (h : a.data.toList = b.data.toList) : a = b := by
  cases a; cases b; simpa using h
theorem tail_num {it : It} (h : it.kind = 7 ∨ it.kind = 8) : tailOf it = if it.hex = true then 36 :: hexDigits (lowN it.n) else 35 :: Lib.itoa it.n := by
  unfold tailOf; rw [if_pos h]
theorem tail_var {it : It} (h : it.kind = 9) : tailOf it = it.name.data.toList ++ 35 :: Lib.itoa it.n := by
  unfold tailOf; rw [if_neg (by omega), if_pos h]
theorem tail_raw {it : It} (h : it.kind = 0) : tailOf it = hexDigits it.raw := by
  unfold tailOf; rw [if_neg (by omega), if_neg (by omega), if_pos h]
theorem tail_word {it : It} (h : 1 ≤ it.kind ∧ it.kind ≤ 6) : tailOf it = it.name.data.toList := by
  unfold tailOf; rw [if_neg (by omega), if_neg (by omega), if_neg (by omega)]
theorem tail_first {it : It} (ho : ItForm it) : ∃ c l, tailOf it = c :: l ∧ ((c = 35 ∨ c = 36) ↔ (it.kind = 7 ∨ it.kind = 8)) := by
  have hx : ∀ u : Nat, ∀ c l, hexDigits u = c :: l → ¬ (c = 35 ∨ c = 36) := fun u c l e hc => by
    have := hex_all u c (by rw [e]; simp)
    rcases hc with rfl | rfl <;> simp [HexB] at this
  rcases ho with ⟨h0, h1, h2, h3⟩ | ⟨h0, h1, h2⟩ | ⟨h0, h1, h2, h3⟩ | ⟨h0, h1, h2, h3, h4⟩
  · rw [tail_raw h0]
    cases e : hexDigits it.raw with
    | nil => exact absurd e (hex_ne _)
    | cons c l => exact ⟨c, l, rfl, ⟨fun hc => absurd hc (hx _ _ _ e), fun hk => by omega⟩⟩
  · rw [tail_num h0]
    cases it.hex with
    | true => exact ⟨36, _, rfl, ⟨fun _ => h0, fun _ => .inr rfl⟩⟩
    | false => exact ⟨35, _, rfl, ⟨fun _ => h0, fun _ => .inl rfl⟩⟩
  · obtain ⟨n1, n2, n3⟩ := nameL_noHash h3
    rw [tail_var h0]
    cases e : it.name.data.toList with
    | nil => exact absurd e n3
    | cons c l =>
      rw [e] at n1 n2
      exact ⟨c, _, rfl, ⟨fun hc => by rcases hc with rfl | rfl <;> simp at n1 n2, fun hk => by omega⟩⟩
  · obtain ⟨n1, n2, n3⟩ := nameL_noHash h4
    rw [tail_word h0]
    cases e : it.name.data.toList with
    | nil => exact absurd e n3
    | cons c l =>
      rw [e] at n1 n2
      exact ⟨c, _, rfl, ⟨fun hc => by rcases hc with rfl | rfl <;> simp at n1 n2, fun hk => by omega⟩⟩
theorem form_kind {it : It} (h : ItForm it) : 0 ≤ it.kind ∧ it.kind ≤ 9 := by
  rcases h with h | h | h | h <;> omega
theorem mark_kind {a b : Int} (ha : 0 ≤ a ∧ a ≤ 9) (hb : 0 ≤ b ∧ b ≤ 9) (h : markOf a = markOf b) (hn : (a = 7 ∨ a = 8) ↔ (b = 7 ∨ b = 8)) : a = b := by
  have ka : a = 0 ∨ a = 1 ∨ a = 2 ∨ a = 3 ∨ a = 4 ∨ a = 5 ∨ a = 6 ∨ a = 7 ∨ a = 8 ∨ a = 9 := by omega
  have kb : b = 0 ∨ b = 1 ∨ b = 2 ∨ b = 3 ∨ b = 4 ∨ b = 5 ∨ b = 6 ∨ b = 7 ∨ b = 8 ∨ b = 9 := by omega
  rcases ka with rfl | rfl | rfl | rfl | rfl | rfl | rfl | rfl | rfl | rfl <;> rcases kb with rfl | rfl | rfl | rfl | rfl | rfl | rfl | rfl | rfl | rfl <;> first | rfl | (exfalso; revert h; decide) | (exfalso; revert hn; decide)
/-- Two items that have cells and the same text are one. -/
theorem itext_inj {a b : It} (ha : ItIn a) (hb : ItIn b) (oa : ItForm a) (ob : ItForm b) (h : markOf a.kind :: tailOf a = markOf b.kind :: tailOf b) : a = b := by
  simp only [List.cons.injEq] at h
  obtain ⟨c, l, ec, hc⟩ := tail_first oa
  obtain ⟨d, m, ed, hd⟩ := tail_first ob
  have hcd : c = d := by
    have := h.2
    rw [ec, ed] at this
    exact (List.cons.inj this).1
  have hk : a.kind = b.kind := mark_kind (form_kind oa) (form_kind ob) h.1 (by rw [← hc, ← hd, hcd])
  have ht := h.2
  clear hc hd hcd ec ed h
  obtain ⟨k, nm, n, x, r⟩ := a
  obtain ⟨k', nm', n', x', r'⟩ := b
  simp only at hk
  subst hk
  rcases oa with ⟨h0, h1, h2, h3⟩ | ⟨h0, h1, h2⟩ | ⟨h0, h1, h2, h3⟩ | ⟨h0, h1, h2, h3, h4⟩ <;> rcases ob with ⟨k0, k1, k2, k3⟩ | ⟨k0, k1, k2⟩ | ⟨k0, k1, k2, k3⟩ | ⟨k0, k1, k2, k3, k4⟩ <;> simp only at h0 k0 <;> first | (exfalso; omega) | skip
  · rw [tail_raw h0, tail_raw k0] at ht
    simp only at h1 h2 h3 k1 k2 k3
    subst h1 h2 h3 k1 k2 k3
    have := hex_inj ht
    simp only at this
    subst this; rfl
  · rw [tail_num h0, tail_num k0] at ht
    simp only at h1 h2 k1 k2 ht
    subst h1 h2 k1 k2
    have a1 := ha.n1
    have a2 := ha.n2
    have b1 := hb.n1
    have b2 := hb.n2
    simp only at a1 a2 b1 b2
    cases x <;> cases x' <;> simp only [if_true, if_false, Bool.false_eq_true, List.cons.injEq, true_and] at ht
    · rw [itoa_inj ht]
    · exact absurd ht.1 (by decide)
    · exact absurd ht.1 (by decide)
    · have := hex_inj ht
      rw [show n = n' from by rw [← sgn_low a1 a2, ← sgn_low b1 b2, this]]
  · rw [tail_var h0, tail_var k0] at ht
    simp only at h1 h2 h3 k1 k2 k3 ht
    subst h1 h2 k1 k2
    obtain ⟨e1, e2⟩ := split_inj (nameL_noHash h3).1 (nameL_noHash k3).1 ht
    rw [bytes_of_list e1, itoa_inj e2]
  · rw [tail_word h0, tail_word k0] at ht
    simp only at h1 h2 h3 h4 k1 k2 k3 k4 ht
    subst h1 h2 h3 k1 k2 k3
    rw [bytes_of_list ht]

theorem text_yes {it : It} (h : cellsOf it ≠ []) : textOf it = markOf it.kind :: tailOf it := by unfold textOf; rw [if_neg h]
theorem text_no {it : It} (h : cellsOf it = []) : textOf it = [] := by unfold textOf; rw [if_pos h]
/-- What a text reads as: the one item that has it, or none. -/
def ReadsItem (l : List UInt8) (it : It) (b : Bool) : Prop :=
  (b = true ∧ cellsOf it ≠ [] ∧ ItIn it ∧ l = textOf it) ∨ (b = false ∧ it = rawIt 0 ∧ ∀ j : It, ItIn j → cellsOf j ≠ [] → l ≠ textOf j)
theorem ReadsItem.unique {l : List UInt8} {i j : It} {a b : Bool} (h : ReadsItem l i a) (k : ReadsItem l j b) : i = j ∧ a = b := by
  rcases h with ⟨h1, h2, h3, h4⟩ | ⟨h1, h2, h3⟩ <;> rcases k with ⟨k1, k2, k3, k4⟩ | ⟨k1, k2, k3⟩
  · refine ⟨itext_inj h3 k3 (form_of h2) (form_of k2) ?_, by rw [h1, k1]⟩
    rw [← text_yes h2, ← text_yes k2, ← h4, k4]
  · exact absurd h4 (k3 _ h3 h2)
  · exact absurd k4 (h3 _ k3 k2)
  · exact ⟨by rw [h2, k2], by rw [h1, k1]⟩
theorem text_len {it : It} (h : cellsOf it ≠ []) : 2 ≤ (textOf it).length := by
  obtain ⟨c, l, e, _⟩ := tail_first (form_of h)
  rw [text_yes h, e]; simp
end Go.Proofs.YtogdbfjagnbllaaGreatDoor

namespace Go.Proofs.YtogdbfjagnbllaaGreatDoor
open Go.RowKit

theorem ret_string {a b : List UInt8} (h : a = b) : Ending.returned (.string ⟨a.toArray⟩) = .returned (.string ⟨b.toArray⟩) := by rw [h]

theorem fin_neg {n : Int} (h : n < 0) : Ending.returned (.string ((⟨#[45]⟩ : ByteArray) ++ ⟨(dd n.natAbs).toArray⟩)) = .returned (.string ⟨(Lib.itoa n).toArray⟩) := by
  rw [ByteArray.mk_append_mk, dd_pos (by omega)]
  unfold Lib.itoa
  rw [if_pos h]
  simp
theorem fin_pos {n : Int} (h : 0 < n) : Ending.returned (.string (⟨(dd n.natAbs).toArray⟩ : ByteArray)) = .returned (.string ⟨(Lib.itoa n).toArray⟩) := by
  rw [dd_pos (by omega)]
  unfold Lib.itoa
  rw [if_neg (by omega), show n.toNat = n.natAbs by omega]

theorem dig_string (l : List UInt8) (j : Nat) : Value.string ((⟨#[48, 49, 50, 51, 52, 53, 54, 55, 56, 57]⟩ : ByteArray).extract (j % 10) (j % 10 + 1) ++ ⟨l.toArray⟩) = .string ⟨(UInt8.ofNat (48 + j % 10) :: l).toArray⟩ := by
  rw [show (⟨#[48, 49, 50, 51, 52, 53, 54, 55, 56, 57]⟩ : ByteArray) = tenDigits from rfl, tenDigits_one (Nat.mod_lt _ (by decide)), ByteArray.mk_append_mk]
  simp
theorem dig_step {j : Nat} {l m : List UInt8} (h : dd j ++ l = m) (hj : j ≠ 0) : dd (j / 10) ++ UInt8.ofNat (48 + j % 10) :: l = m := by
  rw [dd_step hj] at h
  simpa using h

theorem dig_neg {j : Nat} {l m : List UInt8} (h : dd (-(j : Int)).natAbs ++ l = m) (hj : j ≠ 0) : dd (-((j / 10 : Nat) : Int)).natAbs ++ UInt8.ofNat (48 + j % 10) :: l = m := by
  rw [Int.natAbs_neg, Int.natAbs_natCast] at *
  exact dig_step h hj

set_option maxHeartbeats 1000000 in
theorem spec_dectext (n : Int) (h0 : -9223372036854775808 ≤ n) (h1 : n ≤ 9223372036854775807) (w : World) :
    Calls Tryz.prog 71 #[.int .i64 n] w fun e w' => e = .returned (.string ⟨(Lib.itoa n).toArray⟩) ∧ w = w' := by
  by_cases hz : n = 0
  · subst hz
    go_enter Tryz.func71, Tryz.ntmps71
    go_wp2
    go_ret
    exact ⟨ret_string (a := [48]) (by decide +kernel), rfl⟩
  · have hz' : (n == 0) = false := by simpa using hz
    have hnl := dd_length (u := n.natAbs) (by omega)
    go_enter Tryz.func71, Tryz.ntmps71
    go_wp2
    go_loop [3, 4] (fun out m => ∃ (k : Int) (l : List UInt8), m = .int .i64 k ∧ out = .string ⟨l.toArray⟩ ∧ dd k.natAbs ++ l = dd n.natAbs ∧ (n < 0 → k ≤ 0) ∧ (0 < n → 0 ≤ k) ∧ k.natAbs ≤ n.natAbs) (fun _ m => (intOf m).natAbs)
    case atStart => exact ⟨n, [], rfl, rfl, by simp, by omega, by omega, by omega⟩
    case round =>
      obtain ⟨k, l, rfl, rfl, hl, hneg, hpos, hle⟩ := hrel
      have hll : l.length ≤ 20 := by
        have := congrArg List.length hl
        simp at this; omega
      by_cases hk : k = 0
      · subst hk
        have HM : l = dd n.natAbs := by simpa [dd_zero] using hl
        subst HM
        clear hl
        by_cases hn : n < 0
        · go_wp2
          go_ret
          exact ⟨fin_neg hn, rfl⟩
        · go_wp2
          go_ret
          exact ⟨fin_pos (by omega), rfl⟩
      · have hk' : (k != 0) = true := by simpa using hk
        have HL := Lib.hid hl
        clear hl
        by_cases hn : n < 0
        · obtain ⟨j, rfl⟩ : ∃ j : Nat, k = -(j : Int) := ⟨k.natAbs, by omega⟩
          have hm : (-(j : Int)).tmod 10 = -((j % 10 : Nat) : Int) := by rw [Int.neg_tmod]; rfl
          go_wp2
          · go_round
            case rel => exact ⟨-((j / 10 : Nat) : Int), _, by go_num, dig_string l j, dig_neg HL.out (by omega), by omega, by omega, by omega⟩
            case measure => simp [intOf]; omega
          · have hd : (-(j : Int) % 10) = 0 := by omega
            go_round
            case rel => exact ⟨-((j / 10 : Nat) : Int), UInt8.ofNat (48 + j % 10) :: l, by go_num, (by rw [show (-((j : Int) % 10)).toNat = j % 10 by omega, show (-((j : Int) % 10) + 1).toNat = j % 10 + 1 by omega]; exact dig_string l j), dig_neg HL.out (by omega), by omega, by omega, by omega⟩
            case measure => simp [intOf]; omega
        · obtain ⟨j, rfl⟩ : ∃ j : Nat, k = (j : Int) := ⟨k.natAbs, by omega⟩
          go_wp2
          go_round
          case rel => exact ⟨((j / 10 : Nat) : Int), _, by go_num, dig_string l j, dig_step HL.out (by omega), by omega, by omega, by omega⟩
          case measure => simp [intOf]; omega
end Go.Proofs.YtogdbfjagnbllaaGreatDoor

namespace Go.Proofs.YtogdbfjagnbllaaGreatDoor
open Go.RowKit

def inB (x a b : Int) : Bool := decide (a ≤ x ∧ x ≤ b)
theorem inB_true {x a b : Int} (h0 : a ≤ x) (h1 : x ≤ b) : inB x a b = true := by unfold inB; simp [h0, h1]
theorem inB_false {x a b : Int} (h : ¬ (a ≤ x ∧ x ≤ b)) : inB x a b = false := by unfold inB; simpa using h
theorem inB_iff {x a b : Int} : inB x a b = true ↔ a ≤ x ∧ x ≤ b := by unfold inB; simp

theorem in_any (x a b : Int) (w : World) :
    Calls Tryz.prog 112 #[.int .i64 x, .int .i64 a, .int .i64 b] w fun e w' => e = .returned (.bool (inB x a b)) ∧ w = w' := by
  by_cases h0 : a ≤ x
  · by_cases h1 : x ≤ b
    · rw [inB_true h0 h1]
      go_enter Tryz.func112, Tryz.ntmps112
      go_wp2
      go_ret
      exact ⟨rfl, rfl⟩
    · rw [inB_false (by omega)]
      have h1' : decide (x ≤ b) = false := by simpa using h1
      go_enter Tryz.func112, Tryz.ntmps112
      go_wp2
      go_ret
      exact ⟨rfl, rfl⟩
  · rw [inB_false (by omega)]
    have h0' : decide (a ≤ x) = false := by simpa using h0
    go_enter Tryz.func112, Tryz.ntmps112
    go_wp2
    go_ret
    exact ⟨rfl, rfl⟩
end Go.Proofs.YtogdbfjagnbllaaGreatDoor

namespace Go.Proofs.YtogdbfjagnbllaaGreatDoor
open Go.RowKit

theorem digit_any (x : Int) (h0 : 0 ≤ x) (h1 : x ≤ 255) (w : World) :
    Calls Tryz.prog 113 #[.int .u8 x] w fun e w' => e = .returned (.bool (inB x 48 57)) ∧ w = w' := by
  go_enter Tryz.func113, Tryz.ntmps113
  go_wp2_with (go_at_call 112; refine (in_any _ _ _ _).mono ?_; rintro e w' ⟨rfl, rfl⟩)
  go_ret
  exact ⟨rfl, rfl⟩
theorem digit_u8 (c : UInt8) (w : World) :
    Calls Tryz.prog 113 #[.int .u8 (c.toNat : Int)] w fun e w' => e = .returned (.bool (inB (c.toNat : Int) 48 57)) ∧ w = w' :=
  digit_any _ (by omega) (by have := u8_le c; omega) w
end Go.Proofs.YtogdbfjagnbllaaGreatDoor

namespace Go.Proofs.YtogdbfjagnbllaaGreatDoor
open Go.RowKit

theorem hret_string {a b : List UInt8} (h : a = b) : Ending.returned (.string ⟨a.toArray⟩) = .returned (.string ⟨b.toArray⟩) := by rw [h]
theorem hdig_string (l : List UInt8) (j : Nat) : Value.string ((⟨#[48, 49, 50, 51, 52, 53, 54, 55, 56, 57, 97, 98, 99, 100, 101, 102]⟩ : ByteArray).extract (j % 16) (j % 16 + 1) ++ ⟨l.toArray⟩) = .string ⟨(hdig (j % 16) :: l).toArray⟩ := by
  rw [show (⟨#[48, 49, 50, 51, 52, 53, 54, 55, 56, 57, 97, 98, 99, 100, 101, 102]⟩ : ByteArray) = sixteen from rfl, sixteen_one (Nat.mod_lt _ (by decide)), ByteArray.mk_append_mk]
  simp
theorem hdig_step {j : Nat} {l m : List UInt8} (h : hh j ++ l = m) (hj : j ≠ 0) : hh (j / 16) ++ hdig (j % 16) :: l = m := by
  rw [hh_step hj] at h
  simpa using h

set_option maxHeartbeats 1000000 in
theorem spec_hextext (n : Nat) (h1 : n < 4294967296) (w : World) :
    Calls Tryz.prog 70 #[.int .u32 n] w fun e w' => e = .returned (.string ⟨(hexDigits n).toArray⟩) ∧ w = w' := by
  by_cases hz : n = 0
  · subst hz
    go_enter Tryz.func70, Tryz.ntmps70
    go_wp2
    go_ret
    exact ⟨hret_string (a := [48]) (by rw [hex_small (by decide)]; rfl), rfl⟩
  · have hz' : ((n : Int) == 0) = false := by simpa using hz
    have hnl := hh_length h1
    go_enter Tryz.func70, Tryz.ntmps70
    go_wp2
    go_loop [3, 4] (fun out m => ∃ (k : Nat) (l : List UInt8), m = .int .i64 k ∧ out = .string ⟨l.toArray⟩ ∧ hh k ++ l = hh n ∧ k ≤ n) (fun _ m => (intOf m).natAbs)
    case atStart => exact ⟨n, [], rfl, rfl, by simp, by omega⟩
    case round =>
      obtain ⟨k, l, rfl, rfl, hl, hle⟩ := hrel
      have hll : l.length ≤ 8 := by
        have := congrArg List.length hl
        simp at this; omega
      by_cases hk : k = 0
      · subst hk
        have HM : l = hh n := by simpa [hh_zero] using hl
        subst HM
        clear hl
        go_wp2
        go_ret
        exact ⟨hret_string (hh_pos hz), rfl⟩
      · have hk' : (0 : Int) < (k : Int) := by omega
        have HL := Lib.hid hl
        clear hl
        go_wp2
        go_round
        case rel => exact ⟨k / 16, _, by go_num, hdig_string l k, hdig_step HL.out (by omega), by omega⟩
        case measure => simp [intOf]; omega
end Go.Proofs.YtogdbfjagnbllaaGreatDoor

namespace Go.Proofs.YtogdbfjagnbllaaGreatDoor
open Go.ChangeShapes Go.WideShapes Go.ChangeAt Go.RowKit

theorem below_drewN {B : Nat} {a w : World} (h : Below B a w) (n : Nat) : Below B a (w.drewN n) := ⟨h.os, h.tape, h.output, h.size, h.block⟩
theorem below_grow {B : Nat} {a w : World} (h : Below B a w) (os : Array Obj) (hB : B ≤ w.heap.size) : Below B a (Go.Sort.grow w os) :=
  h.trans ⟨rfl, rfl, rfl, by simp [Go.Sort.grow], fun k hk => by show (w.heap ++ os)[k]? = _; rw [Array.getElem?_append_left (by omega)]⟩
theorem below_regrow (w : World) (k : Nat) (os : Array Obj) : Below w.heap.size w (Go.Sort.grow (w.drewN k) os) := below_grow (below_drewN (Below.refl _ _) k) os (by simp)
theorem bcell {W w1 : World} (hb : Below W.heap.size W w1) : (∀ b o, b < W.heap.size → w1.cell? ⟨b, o, none⟩ = W.cell? ⟨b, o, none⟩) ∧ (∀ b o, b < W.heap.size → w1.frozen? ⟨b, o, none⟩ = W.frozen? ⟨b, o, none⟩) :=
  ⟨fun b o h => hb.cell (p := ⟨b, o, none⟩) h, fun b o h => hb.frozen (p := ⟨b, o, none⟩) h⟩
theorem var?_below {P : Program} {W W' : World} {n : String} {cs : Array Value} (h : W.var? P n = some cs) (hb : Below W.heap.size W W') : W'.var? P n = some cs := by
  unfold World.var? at h ⊢
  cases hg : P.globalNamed n with
  | none => rw [hg] at h; simp at h
  | some g =>
    rw [hg] at h
    simp only [Option.bind_some] at h ⊢
    cases hw : W.heap[g]? with
    | none => rw [hw] at h; simp at h
    | some o => rw [hw] at h; rw [hb.block g (Array.getElem?_eq_some_iff.1 hw).1, hw]; exact h

theorem trodAll_below {H : Type} {enc : TypeId × Value → H} {P : Program} (hl : laidOutB P = true) {W W' : World} (hb : Below W.heap.size W W') :
    ∀ {ts : List TypeId} {vs : List Value} {ds : List (DataW H)} {ps : List MemPlace}, (ts.all fun t => P.readableRec t && decide (t < P.types.size)) = true → DataW.TrodAll enc P W 0 (fun _ => true) true ts vs ds ps → (∀ x ∈ ps, x.block < W.heap.size) →
      DataW.TrodAll enc P W' 0 (fun b => decide (b < W.heap.size)) true ts vs ds ps
  | [], [], [], _, _, h, _ => h
  | t :: ts, v :: vs, d :: ds, _, hr, ⟨p, q, h1, h2, e⟩, hlt => by
    simp only [List.all_cons, Bool.and_eq_true, decide_eq_true_eq] at hr
    subst e
    exact ⟨p, q, Below.trod hl hr.1.1 hr.1.2 h1 hb (fun x hx => hlt x (List.mem_append_left _ hx)), trodAll_below hl hb hr.2 h2 (fun x hx => hlt x (List.mem_append_right _ hx)), rfl⟩
  | [], _ :: _, _, _, _, h, _ => h.elim
  | [], [], _ :: _, _, _, h, _ => h.elim
  | _ :: _, [], _, _, _, h, _ => h.elim
  | _ :: _, _ :: _, [], _, _, h, _ => h.elim

/-- WHAT A LAW'S ROW ASKS BEHIND THE CALL, where it names package-level variables. -/
theorem law_postV {H : Type} {enc : TypeId × Value → H} {P : Program} {f : Func} {s : ChangeSpec} {W W' : World} {args : Array Value} {ds gs : List (DataW H)} {before : List MemPlace} {tb : TypeId}
    (hl : laidOutB P = true) (hread : (f.params.toList.all fun t => P.readableRec t && decide (t < P.types.size)) = true) (hvr : varsRowed P s.vars = true)
    (hW : DataW.Whole enc P f.params.toList s.vars false W args.toList ds gs before) (hb : Below W.heap.size W W')
    (hres : f.resultTypes = #[tb]) (htb : P.underlying tb = some .bool)
    (hfn : (s.fn H (ds ++ gs)).results = [.lit (.bool true)] ∧ (s.fn H (ds ++ gs)).args = ds ∧ (s.fn H (ds ++ gs)).vars = gs) :
    s.post enc P f false true false false W args (.bool true) W' := by
  obtain ⟨h1, h2, h3⟩ := hfn
  have hlt : ∀ p ∈ before, p.block < W.heap.size := fun p hp => hW.lt p hp
  have hW2 := hW
  obtain ⟨p, q, hA, hV, rfl, _, _⟩ := hW2
  refine ⟨ds, gs, p ++ q, [], p, q, hW, ?_, ?_, ?_, hb.frame _, fun h => by cases h⟩
  · rw [h1, hres]
    exact trodAll_mk1 (shut_bool htb _)
  · rw [h2]
    exact trodAll_below hl hb hread hA (fun x hx => hlt x (List.mem_append_left _ hx))
  · rw [h3]
    exact Below.trodVars hl hb hvr hV
theorem gs_one {H : Type} {enc : TypeId × Value → H} {P : Program} {w : World} {spare : Nat → Bool} {n : String} {gs : List (DataW H)} {ps : List MemPlace} (h : DataW.TrodVars enc P w spare [n] gs ps) : ∃ g, gs = [g] := by
  cases gs with
  | nil => exact h.elim
  | cons d ds =>
    obtain ⟨_, _, _, _, _, q, _, _, _, _, hs, _⟩ := h
    obtain ⟨rfl, -⟩ := trodVars_none hs
    exact ⟨d, rfl⟩
theorem gs_two {H : Type} {enc : TypeId × Value → H} {P : Program} {w : World} {spare : Nat → Bool} {n m : String} {gs : List (DataW H)} {ps : List MemPlace} (h : DataW.TrodVars enc P w spare [n, m] gs ps) : ∃ g k, gs = [g, k] := by
  cases gs with
  | nil => exact h.elim
  | cons d ds =>
    obtain ⟨_, _, _, _, _, q, _, _, _, _, hs, _⟩ := h
    obtain ⟨k, rfl⟩ := gs_one hs
    exact ⟨d, k, rfl⟩
theorem gs_three {H : Type} {enc : TypeId × Value → H} {P : Program} {w : World} {spare : Nat → Bool} {n m o : String} {gs : List (DataW H)} {ps : List MemPlace} (h : DataW.TrodVars enc P w spare [n, m, o] gs ps) : ∃ g k l, gs = [g, k, l] := by
  cases gs with
  | nil => exact h.elim
  | cons d ds =>
    obtain ⟨_, _, _, _, _, q, _, _, _, _, hs, _⟩ := h
    obtain ⟨k, l, rfl⟩ := gs_two hs
    exact ⟨d, k, l, rfl⟩

/-- WHAT A LAW'S ROW ASKS BEHIND THE CALL. -/
theorem law_post {H : Type} {enc : TypeId × Value → H} {P : Program} {f : Func} {s : ChangeSpec} {W W' : World} {args : Array Value} {ds gs : List (DataW H)} {before : List MemPlace} {tb : TypeId}
    (hl : laidOutB P = true) (hread : (f.params.toList.all fun t => P.readableRec t && decide (t < P.types.size)) = true)
    (hW : DataW.Whole enc P f.params.toList s.vars false W args.toList ds gs before) (hv : s.vars = []) (hb : Below W.heap.size W W')
    (hres : f.resultTypes = #[tb]) (htb : P.underlying tb = some .bool)
    (hfn : (s.fn H (ds ++ gs)).results = [.lit (.bool true)] ∧ (s.fn H (ds ++ gs)).args = ds ∧ (s.fn H (ds ++ gs)).vars = []) :
    s.post enc P f false true false false W args (.bool true) W' := by
  obtain ⟨h1, h2, h3⟩ := hfn
  have hlt : ∀ p ∈ before, p.block < W.heap.size := fun p hp => hW.lt p hp
  have hW2 := hW
  obtain ⟨p, q, hA, hV, rfl, _, _⟩ := hW2
  rw [hv] at hV
  obtain ⟨rfl, rfl⟩ := trodVars_none hV
  refine ⟨ds, [], p ++ [], [], p, [], hW, ?_, ?_, ?_, hb.frame _, fun h => by cases h⟩
  · rw [h1, hres]
    exact trodAll_mk1 (shut_bool htb _)
  · rw [h2]
    exact trodAll_below hl hb hread hA (fun x hx => hlt x (by simpa using hx))
  · rw [hv, h3]
    rfl
end Go.Proofs.YtogdbfjagnbllaaGreatDoor

namespace Go.Proofs.YtogdbfjagnbllaaGreatDoor
theorem own : ownKnob Tryz.prog.godebug = none := by kernel_rfl
theorem laidOut : laidOutB Tryz.prog = true := by kernel_rfl
end Go.Proofs.YtogdbfjagnbllaaGreatDoor

namespace Go.Proofs.YtogdbfjagnbllaaGreatDoor
open Go.RowKit Go

theorem lt_of_cell_tab {w : World} {a : Addr} {v : Value} (h : w.cell? a = some v) : a.block < w.heap.size := by
  rcases Nat.lt_or_ge a.block w.heap.size with hl | hl
  · exact hl
  · have e : w.heap[a.block]? = none := Array.getElem?_eq_none hl
    simp [World.cell?, e] at h
theorem cells_of_shape {P : Program} {w : World} {g : Nat} {t u : TypeId} {zero : Array Value} {k : IntKind} {n : Nat}
    (h : w.ShapedOpen P) (hg : g < P.globals.size)
    (h0 : ((begin P (fun _ _ => 0) default).world.heap[g]?).bind Obj.row? = some (zero, t)) (hz : zero.size = n)
    (hb : P.buildable t = true) (hc : P.cellTypes P.depth t = some (List.replicate n u)) (hu : P.underlying u = some (.int k)) :
    ∀ i, i < n → ∃ m, w.cell? ⟨g, i, none⟩ = some (.int k m) ∧ k.has m := by
  intro i hi
  obtain ⟨cs, hh, hs, hr⟩ := h.1 g zero t hg h0
  obtain ⟨ts, hts, _, hall⟩ := hr hb
  rw [hc] at hts
  cases hts
  have h1 : i < cs.size := by omega
  obtain ⟨u', hu', hok⟩ := hall i cs[i] (by simp [h1])
  have e : u' = u := by
    rw [List.length_replicate, Nat.mod_eq_of_lt hi, List.getElem?_replicate, if_pos hi] at hu'
    exact (Option.some.inj hu').symm
  subst e
  have hcell : w.cell? ⟨g, i, none⟩ = some cs[i] := by simp [World.cell?, hh, h1]
  rw [hcell]
  unfold Cell.ok at hok
  rw [hu] at hok
  cases hv : cs[i] <;> rw [hv] at hok <;> simp at hok
  case int k' m => exact ⟨m, by rw [hok.1], hok.2⟩

/-- The tables hold numbers of their kinds. -/
def TabsAny (w : World) : Prop :=
  (∀ i, i < 10 → ∃ x : Nat, x < 4294967296 ∧ w.cell? ⟨8, i, none⟩ = some (.int .u32 x)) ∧
  ∀ i, i < 48 → ∃ x : Nat, x < 256 ∧ w.cell? ⟨3, i, none⟩ = some (.int .u8 x)
theorem TabsAny.below {w w' : World} (h : TabsAny w) (hb : Below w.heap.size w w') : TabsAny w' :=
  ⟨fun i hi => by obtain ⟨x, hx, hc⟩ := h.1 i hi; exact ⟨x, hx, (hb.cell (lt_of_cell_tab hc)).trans hc⟩,
   fun i hi => by obtain ⟨x, hx, hc⟩ := h.2 i hi; exact ⟨x, hx, (hb.cell (lt_of_cell_tab hc)).trans hc⟩⟩
theorem zTags : ((begin Tryz.prog (fun _ _ => 0) default).world.heap[8]?).bind Obj.row? = some ((List.replicate 10 (Value.int .u32 0)).toArray, 209) := by kernel_rfl
theorem zCodes : ((begin Tryz.prog (fun _ _ => 0) default).world.heap[3]?).bind Obj.row? = some ((List.replicate 48 (Value.int .u8 0)).toArray, 177) := by kernel_rfl
theorem tabs_of_shape {w : World} (h : w.ShapedOpen Tryz.prog) : TabsAny w := by
  have h1 := cells_of_shape (n := 10) h (of_decide_eq_true (by kernel_rfl)) zTags (by simp) (by kernel_rfl) (by kernel_rfl) Tryz.underlying36
  have h2 := cells_of_shape (n := 48) h (of_decide_eq_true (by kernel_rfl)) zCodes (by simp) (by kernel_rfl) (by kernel_rfl) Tryz.underlying5
  refine ⟨fun i hi => ?_, fun i hi => ?_⟩
  · obtain ⟨m, hc, hm⟩ := h1 i hi
    simp [IntKind.has, IntKind.min, IntKind.max, IntKind.signed, IntKind.bits] at hm
    exact ⟨m.toNat, by omega, by rw [hc]; congr 2; omega⟩
  · obtain ⟨m, hc, hm⟩ := h2 i hi
    simp [IntKind.has, IntKind.min, IntKind.max, IntKind.signed, IntKind.bits] at hm
    exact ⟨m.toNat, by omega, by rw [hc]; congr 2; omega⟩
end Go.Proofs.YtogdbfjagnbllaaGreatDoor

namespace Go.Proofs.YtogdbfjagnbllaaGreatDoor
open Go.RowKit

theorem lets_any (w : World) : Calls Tryz.prog 133 #[] w fun e w' => e = .returned (.string lets) ∧ w = w' := by
  go_enter Tryz.func133, Tryz.ntmps133
  go_wp2
  go_ret
  exact ⟨rfl, rfl⟩

theorem isletter_any (k : Int) (w : World) : Calls Tryz.prog 153 #[.int .i64 k] w fun e w' => e = .returned (.bool (inB k 0 47)) ∧ w = w' := by
  by_cases h0 : 0 ≤ k
  · by_cases h1 : k < 48
    · rw [inB_true h0 (by omega)]
      go_enter Tryz.func153, Tryz.ntmps153
      go_wp2
      go_ret
      exact ⟨rfl, rfl⟩
    · rw [inB_false (by omega)]
      have h1' : decide (k < 48) = false := by simpa using h1
      go_enter Tryz.func153, Tryz.ntmps153
      go_wp2
      go_ret
      exact ⟨rfl, rfl⟩
  · rw [inB_false (by omega)]
    have h0' : decide (0 ≤ k) = false := by simpa using h0
    go_enter Tryz.func153, Tryz.ntmps153
    go_wp2
    go_ret
    exact ⟨rfl, rfl⟩

theorem spec_letterat (k : Int) (w : World) : Calls Tryz.prog 115 #[.int .i64 k] w fun e w' => e = .returned (.int .u8 (letAt k)) ∧ w = w' := by
  by_cases h : 0 ≤ k ∧ k ≤ 47
  · obtain ⟨n, rfl⟩ : ∃ n : Nat, k = n := ⟨k.toNat, by omega⟩
    have hn : n < 48 := by omega
    have hb := Lib.hid (inB_true h.1 h.2)
    have hi := Lib.hid (in_any (n : Int) 0 47 w)
    obtain ⟨s, hs⟩ : ∃ s, lets = s := ⟨_, rfl⟩
    have ha := Lib.hid (lets_any w)
    have hA := Lib.hid (letAt_some hn)
    have hsz := lets_size
    rw [hs] at ha hsz
    have HS := Lib.hid hs
    have hlt : n < s.size := by omega
    clear h hs hsz
    go_enter Tryz.func115, Tryz.ntmps115
    go_wp2_with fail
    refine hi.out.mono ?_
    rintro e w' ⟨he, rfl⟩
    rw [hb.out] at he
    subst he
    go_wp2_with fail
    refine ha.out.mono ?_
    rintro e w' ⟨rfl, rfl⟩
    go_wp2_with fail
    go_ret
    refine ⟨?_, rfl⟩
    rw [hA.out]
    have := HS.out
    subst this
    rfl
  · rw [letAt_none h]
    have hb := Lib.hid (inB_false h)
    clear h
    go_enter Tryz.func115, Tryz.ntmps115
    go_wp2_with fail
    refine (in_any _ _ _ _).mono ?_
    rintro e w' ⟨he, rfl⟩
    rw [hb.out] at he
    subst he
    go_wp2_with fail
    go_ret
    exact ⟨rfl, rfl⟩

theorem impl_letterat (k : Int) (w : World) : Calls Tryz.prog 136 #[.int .i64 k] w fun e w' => e = .returned (.int .u8 (letAt k)) ∧ w = w' := by
  by_cases h : 0 ≤ k ∧ k ≤ 47
  · obtain ⟨n, rfl⟩ : ∃ n : Nat, k = n := ⟨k.toNat, by omega⟩
    have hn : n < 48 := by omega
    have hb := Lib.hid (inB_true h.1 h.2)
    have hi := Lib.hid (isletter_any (n : Int) w)
    have hA := Lib.hid (letAt_some hn)
    have hlt : n < lets.size := by rw [lets_size]; exact hn
    clear h
    go_enter Tryz.func136, Tryz.ntmps136
    go_wp2_with fail
    refine hi.out.mono ?_
    rintro e w' ⟨he, rfl⟩
    rw [hb.out] at he
    subst he
    go_wp2_with fail
    go_ret
    refine ⟨?_, rfl⟩
    rw [hA.out]
    rfl
  · rw [letAt_none h]
    have hb := Lib.hid (inB_false h)
    clear h
    go_enter Tryz.func136, Tryz.ntmps136
    go_wp2_with fail
    refine (isletter_any _ _).mono ?_
    rintro e w' ⟨he, rfl⟩
    rw [hb.out] at he
    subst he
    go_wp2_with fail
    go_ret
    exact ⟨rfl, rfl⟩
end Go.Proofs.YtogdbfjagnbllaaGreatDoor

namespace Go.Proofs.YtogdbfjagnbllaaGreatDoor
open Go.RowKit

theorem spec_widthof (k : Int) (w : World) : Calls Tryz.prog 138 #[.int .i64 k] w fun e w' => e = .returned (.int .i64 (widthOf k)) ∧ w = w' := by
  have HI : ∀ a b, Hid (Calls Tryz.prog 112 #[.int .i64 k, .int .i64 a, .int .i64 b] w fun e w' => e = .returned (.bool (inB k a b)) ∧ w = w') := fun a b => Lib.hid (in_any k a b w)
  by_cases h0 : inB k 0 7 = true
  · have e : widthOf k = 4 := by
      rw [inB_iff] at h0
      unfold widthOf
      rw [if_neg (by omega), if_pos (by omega)]
    rw [e]
    have H0 := Lib.hid h0
    clear h0 e
    go_enter Tryz.func138, Tryz.ntmps138
    go_wp2_with fail
    refine (HI 0 7).out.mono ?_
    rintro e w' ⟨he, rfl⟩
    rw [H0.out] at he
    subst he
    go_wp2_with fail
    go_ret
    exact ⟨rfl, rfl⟩
  · by_cases h1 : inB k 8 15 = true
    · have e : widthOf k = 5 := by
        rw [inB_iff] at h0 h1
        unfold widthOf
        rw [if_neg (by omega), if_neg (by omega), if_pos (by omega)]
      rw [e]
      have H0 := Lib.hid (show inB k 0 7 = false by simpa using h0)
      have H1 := Lib.hid h1
      clear h0 h1 e
      go_enter Tryz.func138, Tryz.ntmps138
      go_wp2_with fail
      refine (HI 0 7).out.mono ?_
      rintro e w' ⟨he, rfl⟩
      rw [H0.out] at he
      subst he
      go_wp2_with fail
      refine (HI 8 15).out.mono ?_
      rintro e w' ⟨he, rfl⟩
      rw [H1.out] at he
      subst he
      go_wp2_with fail
      go_ret
      exact ⟨rfl, rfl⟩
    · have H0 := Lib.hid (show inB k 0 7 = false by simpa using h0)
      have H1 := Lib.hid (show inB k 8 15 = false by simpa using h1)
      have H3 : Hid (widthOf k = if inB k 16 47 then 7 else 0) := Lib.hid (by
        rw [inB_iff] at h0 h1
        by_cases h2 : inB k 16 47 = true
        · rw [if_pos h2]
          rw [inB_iff] at h2
          unfold widthOf
          rw [if_neg (by omega), if_neg (by omega), if_neg (by omega), if_pos (by omega)]
        · rw [if_neg h2]
          rw [inB_iff] at h2
          unfold widthOf
          by_cases h4 : k < 0
          · rw [if_pos h4]
          · rw [if_neg h4, if_neg (by omega), if_neg (by omega), if_neg (by omega)])
      rw [H3.out]
      clear h0 h1
      by_cases h2 : inB k 16 47 = true
      · rw [if_pos h2]
        have H2 := Lib.hid h2
        clear h2
        go_enter Tryz.func138, Tryz.ntmps138
        go_wp2_with fail
        refine (HI 0 7).out.mono ?_
        rintro e w' ⟨he, rfl⟩
        rw [H0.out] at he
        subst he
        go_wp2_with fail
        refine (HI 8 15).out.mono ?_
        rintro e w' ⟨he, rfl⟩
        rw [H1.out] at he
        subst he
        go_wp2_with fail
        refine (HI 16 47).out.mono ?_
        rintro e w' ⟨he, rfl⟩
        rw [H2.out] at he
        subst he
        go_wp2_with fail
        go_ret
        exact ⟨rfl, rfl⟩
      · rw [if_neg h2]
        have H2 := Lib.hid (show inB k 16 47 = false by simpa using h2)
        clear h2
        go_enter Tryz.func138, Tryz.ntmps138
        go_wp2_with fail
        refine (HI 0 7).out.mono ?_
        rintro e w' ⟨he, rfl⟩
        rw [H0.out] at he
        subst he
        go_wp2_with fail
        refine (HI 8 15).out.mono ?_
        rintro e w' ⟨he, rfl⟩
        rw [H1.out] at he
        subst he
        go_wp2_with fail
        refine (HI 16 47).out.mono ?_
        rintro e w' ⟨he, rfl⟩
        rw [H2.out] at he
        subst he
        go_wp2_with fail
        go_ret
        exact ⟨rfl, rfl⟩

theorem impl_widthof (k : Int) (w : World) : Calls Tryz.prog 152 #[.int .i64 k] w fun e w' => e = .returned (.int .i64 (widthOf k)) ∧ w = w' := by
  by_cases h : 0 ≤ k ∧ k ≤ 47
  · have hb := Lib.hid (inB_true h.1 h.2)
    have hi := Lib.hid (isletter_any k w)
    by_cases h1 : k < 8
    · have e : widthOf k = 4 := by unfold widthOf; rw [if_neg (by omega), if_pos (by omega)]
      rw [e]
      clear h e
      go_enter Tryz.func152, Tryz.ntmps152
      go_wp2_with fail
      refine hi.out.mono ?_
      rintro e w' ⟨he, rfl⟩
      rw [hb.out] at he
      subst he
      go_wp2_with fail
      go_ret
      exact ⟨rfl, rfl⟩
    · by_cases h2 : k < 16
      · have e : widthOf k = 5 := by unfold widthOf; rw [if_neg (by omega), if_neg (by omega), if_pos (by omega)]
        rw [e]
        have h3 : 8 ≤ k := by omega
        clear h e h1
        go_enter Tryz.func152, Tryz.ntmps152
        go_wp2_with fail
        refine hi.out.mono ?_
        rintro e w' ⟨he, rfl⟩
        rw [hb.out] at he
        subst he
        go_wp2_with fail
        go_ret
        exact ⟨rfl, rfl⟩
      · have e : widthOf k = 7 := by unfold widthOf; rw [if_neg (by omega), if_neg (by omega), if_neg (by omega), if_pos (by omega)]
        rw [e]
        have h3 : 16 ≤ k := by omega
        have h4 : 8 ≤ k := by omega
        clear h e h1 h2
        go_enter Tryz.func152, Tryz.ntmps152
        go_wp2_with fail
        refine hi.out.mono ?_
        rintro e w' ⟨he, rfl⟩
        rw [hb.out] at he
        subst he
        go_wp2_with fail
        go_ret
        exact ⟨rfl, rfl⟩
  · have e : widthOf k = 0 := by
      unfold widthOf
      by_cases h0 : k < 0
      · rw [if_pos h0]
      · rw [if_neg h0, if_neg (by omega), if_neg (by omega), if_neg (by omega)]
    rw [e]
    have hb := Lib.hid (inB_false h)
    clear h e
    go_enter Tryz.func152, Tryz.ntmps152
    go_wp2_with fail
    refine (isletter_any _ _).mono ?_
    rintro e w' ⟨he, rfl⟩
    rw [hb.out] at he
    subst he
    go_wp2_with fail
    go_ret
    exact ⟨rfl, rfl⟩

theorem impl_letterof (c : UInt8) (w : World) : Calls Tryz.prog 170 #[.int .u8 (c.toNat : Int)] w fun e w' => e = .returned (.int .i64 (letOf c)) ∧ w = w' := by
  have HC := Lib.hid (Tryz.strings_IndexByte lets (c.toNat : Int) w)
  go_enter Tryz.func170, Tryz.ntmps170
  go_wp2_with fail
  refine HC.out.mono ?_
  rintro e w' ⟨rfl, hw⟩
  subst hw
  go_wp2_with fail
  go_ret
  exact ⟨rfl, rfl⟩

set_option maxHeartbeats 1000000 in
theorem spec_letterof (c : UInt8) (w : World) : Calls Tryz.prog 150 #[.int .u8 (c.toNat : Int)] w fun e w' => e = .returned (.int .i64 (letOf c)) ∧ w = w' := by
  have HL := Lib.hid (lets_any w)
  have HF : Hid (∀ (k : Nat) (h : k < 48), lets[k]'(by rw [lets_size]; exact h) = c → (∀ (j : Nat) (hj : j < k), lets[j]'(by rw [lets_size]; omega) ≠ c) → letOf c = k) := Lib.hid fun k h => letOf_first h
  have HN : Hid ((∀ (j : Nat) (hj : j < 48), lets[j]'(by rw [lets_size]; exact hj) ≠ c) → letOf c = -1) := Lib.hid letOf_none
  obtain ⟨s, hs⟩ : ∃ s, lets = s := ⟨_, rfl⟩
  obtain ⟨v, hv⟩ : ∃ v, letOf c = v := ⟨_, rfl⟩
  have hsz := lets_size
  have HF2 : Hid (∀ (k : Nat) (h : k < s.size), s[k] = c → (∀ (j : Nat) (hj : j < k), s[j] ≠ c) → v = k) := Lib.hid (by subst hs hv; exact HF.out)
  have HN2 : Hid ((∀ (j : Nat) (hj : j < s.size), s[j] ≠ c) → v = -1) := Lib.hid (by subst hs hv; exact HN.out)
  rw [hv]
  rw [hs] at HL hsz
  clear hs hv HF HN
  have hc0 := u8_le c
  have HS : Hid (s.size = 48) := Lib.hid hsz
  have hs1 : s.size ≤ 48 := by omega
  clear hsz
  go_enter Tryz.func150, Tryz.ntmps150
  go_wp2_with fail
  refine HL.out.mono ?_
  rintro e w' ⟨rfl, rfl⟩
  go_wp2_with fail
  go_loop [4] (fun i => ∃ k : Nat, k ≤ s.size ∧ i = .int .i64 k ∧ Hid (∀ (j : Nat) (hj : j < s.size), j < k → s[j] ≠ c)) (fun i => s.size - (intOf i).toNat)
  case atStart => exact ⟨0, by omega, rfl, Lib.hid fun j _ h => by omega⟩
  case round =>
    obtain ⟨k, hk, rfl, HK⟩ := hrel
    by_cases hlt : k < s.size
    · have hck := u8_le s[k]
      by_cases he : s[k] = c
      · have he' : ((s[k].toNat : Int) == (c.toNat : Int)) = true := by simp [he]
        have HV := Lib.hid (HF2.out k hlt he fun j hj => HK.out j (by omega) hj)
        clear he
        go_wp2
        go_ret
        exact ⟨by rw [HV.out]; rfl, rfl⟩
      · have he' : ((s[k].toNat : Int) == (c.toNat : Int)) = false := u8_ne he
        have HK2 : Hid (∀ (j : Nat) (hj : j < s.size), j < k + 1 → s[j] ≠ c) := Lib.hid fun j hj h => by
          rcases Nat.lt_or_ge j k with h2 | h2
          · exact HK.out j hj h2
          · obtain rfl : j = k := by omega
            exact he
        clear he
        go_wp2
        go_round
        case rel => exact ⟨k + 1, by omega, by go_num, HK2⟩
        case measure => simp [intOf]; omega
    · have HV := Lib.hid (HN2.out fun j hj => HK.out j hj (by omega))
      go_wp2
      go_ret
      exact ⟨by rw [HV.out]; rfl, rfl⟩
end Go.Proofs.YtogdbfjagnbllaaGreatDoor

namespace Go.Proofs.YtogdbfjagnbllaaGreatDoor
open Go.RowKit

set_option maxHeartbeats 1000000 in
theorem spec_nameok (s : ByteArray) (hs : s.size ≤ 4611686018427387904) (w : World) : Calls Tryz.prog 131 #[.string s] w fun e w' => e = .returned (.bool (nameOk s)) ∧ w = w' := by
  have HI := Lib.hid (in_any (s.size : Int) 1 24 w)
  by_cases h : 1 ≤ s.size ∧ s.size ≤ 24
  · have hb := Lib.hid (inB_true (x := (s.size : Int)) (a := 1) (b := 24) (by omega) (by omega))
    obtain ⟨v, hv⟩ : ∃ v, nameOk s = v := ⟨_, rfl⟩
    have HY : Hid ((∀ (i : Nat) (h : i < s.size), nameByte s[i] = true) → v = true) := Lib.hid fun h2 => hv ▸ nameOk_yes h.1 h.2 h2
    have HN : Hid (∀ (i : Nat) (h : i < s.size), nameByte s[i] = false → v = false) := Lib.hid fun i hi h2 => hv ▸ nameOk_no hi h2
    rw [hv]
    have h24 := h.2
    clear h hv
    go_enter Tryz.func131, Tryz.ntmps131
    go_wp2_with fail
    refine HI.out.mono ?_
    rintro e w' ⟨he, rfl⟩
    rw [hb.out] at he
    subst he
    go_wp2_with fail
    go_loop [3] (fun i => ∃ k : Nat, k ≤ s.size ∧ i = .int .i64 k ∧ Hid (∀ (j : Nat) (hj : j < s.size), j < k → nameByte s[j] = true)) (fun i => s.size - (intOf i).toNat)
    case atStart => exact ⟨0, by omega, rfl, Lib.hid fun j _ h => by omega⟩
    case round =>
      obtain ⟨k, hk, rfl, HK⟩ := hrel
      by_cases hlt : k < s.size
      · have hck := u8_le s[k]
        have hr := letOf_range s[k]
        have HL : Hid (∀ W, Calls Tryz.prog 150 #[.int .u8 (s[k].toNat : Int)] W fun e w' => e = .returned (.int .i64 (letOf s[k])) ∧ W = w') := Lib.hid fun W => spec_letterof s[k] W
        have HQ : Hid (nameByte s[k] = decide (1 ≤ letOf s[k])) := Lib.hid rfl
        obtain ⟨x, hx⟩ : ∃ x, letOf s[k] = x := ⟨_, rfl⟩
        rw [hx] at hr HL HQ
        clear hx
        obtain ⟨hr0, hr1⟩ := hr
        by_cases he : x < 1
        · have HV := Lib.hid (HN.out k hlt (by rw [HQ.out]; simpa using he))
          go_wp2_with fail
          refine (HL.out _).mono ?_
          rintro e w' ⟨rfl, rfl⟩
          go_wp2_with fail
          go_ret
          exact ⟨by rw [HV.out]; rfl, rfl⟩
        · have HK2 : Hid (∀ (j : Nat) (hj : j < s.size), j < k + 1 → nameByte s[j] = true) := Lib.hid fun j hj h => by
            rcases Nat.lt_or_ge j k with h2 | h2
            · exact HK.out j hj h2
            · obtain rfl : j = k := by omega
              rw [HQ.out]
              simp; omega
          go_wp2_with fail
          refine (HL.out _).mono ?_
          rintro e w' ⟨rfl, rfl⟩
          go_wp2_with fail
          go_round
          case rel => exact ⟨k + 1, by omega, by go_num, HK2⟩
          case measure => simp [intOf]; omega
      · have HV := Lib.hid (HY.out fun j hj => HK.out j hj (by omega))
        go_wp2
        go_ret
        exact ⟨by rw [HV.out]; rfl, rfl⟩
  · rw [nameOk_size h]
    have hb := Lib.hid (inB_false (x := (s.size : Int)) (a := 1) (b := 24) (by omega))
    clear h
    go_enter Tryz.func131, Tryz.ntmps131
    go_wp2_with fail
    refine HI.out.mono ?_
    rintro e w' ⟨he, rfl⟩
    rw [hb.out] at he
    subst he
    go_wp2_with fail
    go_ret
    exact ⟨rfl, rfl⟩

set_option maxHeartbeats 1000000 in
theorem impl_nameok (s : ByteArray) (hs : s.size ≤ 4611686018427387904) (w : World) : Calls Tryz.prog 166 #[.string s] w fun e w' => e = .returned (.bool (nameOk s)) ∧ w = w' := by
  obtain ⟨v, hv⟩ : ∃ v, nameOk s = v := ⟨_, rfl⟩
  have HY : Hid (1 ≤ s.size → s.size ≤ 24 → (∀ (i : Nat) (h : i < s.size), nameByte s[i] = true) → v = true) := Lib.hid fun h0 h1 h2 => hv ▸ nameOk_yes h0 h1 h2
  have HN : Hid (∀ (i : Nat) (h : i < s.size), nameByte s[i] = false → v = false) := Lib.hid fun i hi h2 => hv ▸ nameOk_no hi h2
  have HZ : Hid (¬ (1 ≤ s.size ∧ s.size ≤ 24) → v = false) := Lib.hid fun h => hv ▸ nameOk_size h
  rw [hv]
  clear hv
  go_enter Tryz.func166, Tryz.ntmps166
  go_wp2_with fail
  refine wp_scope_jumps 0 (fun a' w' => w' = w ∧ v = false ∧ ∃ u0 u1 u2 u3 u4 u5 u6 u7 u8 u9 u10 u11 u12 u13 u14 u15 u16 u17 u18 u19 u20 u21 u22 u23 u24 u25 u26 u27 : Value, a' = { tmps := #[u0, u1, u2, u3, u4, u5, u6, u7, u8, u9, u10, u11, u12, u13, u14, u15, u16, u17, u18, u19, u20, u21, u22, u23, u24, u25, u26, u27], defers := [] }) (fun _ _ => 0) rfl ?_ ?_
  · by_cases h0 : s.size = 0
    · obtain rfl : s = ⟨#[]⟩ := by
        apply ByteArray.ext
        apply Array.ext'
        exact List.length_eq_zero_iff.1 (by simpa using h0)
      have HV := HZ.out (by omega)
      clear h0 hs HY HN HZ
      go_wp2
      go_step3
      exact ⟨rfl, rfl, HV, _, _, _, _, _, _, _, _, _, _, _, _, _, _, _, _, _, _, _, _, _, _, _, _, _, _, _, _, rfl⟩
    · have e1 : s.toList.isEmpty = false := by
        rw [ByteArray.toList_eq]
        simp
        intro h
        exact h0 (by show s.data.size = 0; rw [h]; rfl)
      by_cases h : s.size ≤ 24
      · have HY2 := Lib.hid (HY.out (by omega) h)
        have h1 : 0 < s.size := by omega
        clear h0 HZ HY
        go_wp2_with fail
        go_loop [13] (fun i => ∃ k : Nat, k ≤ s.size ∧ i = .int .i64 k ∧ Hid (∀ (j : Nat) (hj : j < s.size), j < k → nameByte s[j] = true)) (fun i => s.size - (intOf i).toNat)
        case atStart => exact ⟨0, by omega, rfl, Lib.hid fun j _ h => by omega⟩
        case round =>
          obtain ⟨k, hk, rfl, HK⟩ := hrel
          by_cases hlt : k < s.size
          · have hck := u8_le s[k]
            have hr := letOf_range s[k]
            have HL : Hid (∀ W, Calls Tryz.prog 170 #[.int .u8 (s[k].toNat : Int)] W fun e w' => e = .returned (.int .i64 (letOf s[k])) ∧ W = w') := Lib.hid fun W => impl_letterof s[k] W
            have HQ : Hid (nameByte s[k] = decide (1 ≤ letOf s[k])) := Lib.hid rfl
            have HB : Hid (s[k] = 32 → letOf s[k] = 0) := Lib.hid fun h => by rw [h]; exact letOf_blank
            have HB2 : Hid (letOf s[k] = 0 → s[k] = 32) := Lib.hid letOf_zero
            obtain ⟨x, hx⟩ : ∃ x, letOf s[k] = x := ⟨_, rfl⟩
            rw [hx] at hr HL HQ HB HB2
            clear hx
            obtain ⟨hr0, hr1⟩ := hr
            by_cases he : x < 0
            · have HV := Lib.hid (HN.out k hlt (by rw [HQ.out]; simp; omega))
              go_wp2_with fail
              refine (HL.out _).mono ?_
              rintro e w' ⟨rfl, rfl⟩
              go_wp2_with fail
              go_step3
              exact ⟨rfl, rfl, HV.out, _, _, _, _, _, _, _, _, _, _, _, _, _, _, _, _, _, _, _, _, _, _, _, _, _, _, _, _, rfl⟩
            · by_cases hb : s[k] = 32
              · have hb' : ((s[k].toNat : Int) == 32) = true := by rw [hb]; rfl
                have HV := Lib.hid (HN.out k hlt (by rw [HQ.out, HB.out hb]; rfl))
                have he2 : 0 ≤ x := by omega
                clear hb he
                go_wp2_with fail
                refine (HL.out _).mono ?_
                rintro e w' ⟨rfl, rfl⟩
                go_wp2_with fail
                go_step3
                exact ⟨rfl, rfl, HV.out, _, _, _, _, _, _, _, _, _, _, _, _, _, _, _, _, _, _, _, _, _, _, _, _, _, _, _, _, rfl⟩
              · have hb' : ((s[k].toNat : Int) == 32) = false := u8_ne (b := 32) hb
                have hx1 : 1 ≤ x := by
                  rcases Int.lt_or_le x 1 with h2 | h2
                  · exact absurd (HB2.out (by omega)) hb
                  · exact h2
                have HK2 : Hid (∀ (j : Nat) (hj : j < s.size), j < k + 1 → nameByte s[j] = true) := Lib.hid fun j hj h => by
                  rcases Nat.lt_or_ge j k with h2 | h2
                  · exact HK.out j hj h2
                  · obtain rfl : j = k := by omega
                    rw [HQ.out]
                    simp; omega
                clear hb he
                go_wp2_with fail
                refine (HL.out _).mono ?_
                rintro e w' ⟨rfl, rfl⟩
                go_wp2_with fail
                go_round
                case rel => exact ⟨k + 1, by omega, by go_num, HK2⟩
                case measure => simp [intOf]; omega
          · have HV := Lib.hid (HY2.out fun j hj => HK.out j hj (by omega))
            go_wp2
            simp only [Exit.jump]
            go_ret
            exact ⟨by rw [HV.out]; rfl, rfl⟩
      · have HV := Lib.hid (HZ.out (by omega))
        clear h0 HY HN HZ
        go_wp2_with fail
        go_step3
        exact ⟨rfl, rfl, HV.out, _, _, _, _, _, _, _, _, _, _, _, _, _, _, _, _, _, _, _, _, _, _, _, _, _, _, _, _, rfl⟩
  · rintro a' w' ⟨rfl, rfl, u0, u1, u2, u3, u4, u5, u6, u7, u8, u9, u10, u11, u12, u13, u14, u15, u16, u17, u18, u19, u20, u21, u22, u23, u24, u25, u26, u27, rfl⟩
    go_wp2_with fail
    simp only [Exit.jump]
    go_ret
    exact ⟨rfl, rfl⟩
end Go.Proofs.YtogdbfjagnbllaaGreatDoor

namespace Go.Proofs.YtogdbfjagnbllaaGreatDoor
open Go.RowKit

theorem bitsOf_range (k : Int) : 0 ≤ bitsOf k ∧ bitsOf k ≤ 127 := by
  unfold bitsOf
  by_cases h0 : k < 0
  · rw [if_pos h0]; omega
  · rw [if_neg h0]
    by_cases h1 : k < 8
    · rw [if_pos h1]; omega
    · rw [if_neg h1]
      by_cases h2 : k < 16
      · rw [if_pos h2]; omega
      · rw [if_neg h2]
        by_cases h3 : k < 48
        · rw [if_pos h3]; omega
        · rw [if_neg h3]; omega

theorem spec_bitsof (k : Int) (w : World) : Calls Tryz.prog 139 #[.int .i64 k] w fun e w' => e = .returned (.int .u32 (bitsOf k)) ∧ w = w' := by
  have HW := Lib.hid (spec_widthof k w)
  have four : widthOf k = 0 ∨ widthOf k = 4 ∨ widthOf k = 5 ∨ widthOf k = 7 := by
    unfold widthOf
    split
    · exact .inl rfl
    · split
      · exact .inr (.inl rfl)
      · split
        · exact .inr (.inr (.inl rfl))
        · split
          · exact .inr (.inr (.inr rfl))
          · exact .inl rfl
  have both : (widthOf k = 0 → bitsOf k = 0) ∧ (widthOf k = 4 → 0 ≤ k ∧ k < 8 ∧ bitsOf k = k) ∧ (widthOf k = 5 → 8 ≤ k ∧ k < 16 ∧ bitsOf k = k + 8) ∧ (widthOf k = 7 → 16 ≤ k ∧ k < 48 ∧ bitsOf k = k + 80) := by
    unfold widthOf bitsOf
    split
    · simp
    · split
      · simp; omega
      · split
        · simp; omega
        · split
          · simp; omega
          · simp
  rcases four with h | h | h | h
  · rw [both.1 h]
    rw [h] at HW
    clear both h
    go_enter Tryz.func139, Tryz.ntmps139
    go_wp2_with fail
    refine HW.out.mono ?_
    rintro e w' ⟨rfl, rfl⟩
    go_wp2_with fail
    go_ret
    exact ⟨rfl, rfl⟩
  · obtain ⟨h5, h6, h7⟩ := both.2.1 h
    rw [h7]
    rw [h] at HW
    clear both h h7
    go_enter Tryz.func139, Tryz.ntmps139
    go_wp2_with fail
    refine HW.out.mono ?_
    rintro e w' ⟨rfl, rfl⟩
    go_wp2_with fail
    go_ret
    exact ⟨rfl, rfl⟩
  · obtain ⟨h5, h6, h7⟩ := both.2.2.1 h
    rw [h7]
    rw [h] at HW
    clear both h h7
    go_enter Tryz.func139, Tryz.ntmps139
    go_wp2_with fail
    refine HW.out.mono ?_
    rintro e w' ⟨rfl, rfl⟩
    go_wp2_with fail
    go_ret
    exact ⟨rfl, rfl⟩
  · obtain ⟨h5, h6, h7⟩ := both.2.2.2 h
    rw [h7]
    rw [h] at HW
    clear both h h7
    go_enter Tryz.func139, Tryz.ntmps139
    go_wp2_with fail
    refine HW.out.mono ?_
    rintro e w' ⟨rfl, rfl⟩
    go_wp2_with fail
    go_ret
    exact ⟨rfl, rfl⟩
end Go.Proofs.YtogdbfjagnbllaaGreatDoor

namespace Go.Proofs.YtogdbfjagnbllaaGreatDoor
open Go.RowKit

/-- Block g is just these cells of one element type, none frozen. -/
def Blk (w : World) (g : Nat) (t : TypeId) (cs : Array Value) : Prop := w.heap[g]? = some (.cells cs t (0, 0))
section
variable {w w' : World} {g : Nat} {t : TypeId} {cs : Array Value}
theorem Blk.lt (h : Blk w g t cs) : g < w.heap.size := by
  rcases Nat.lt_or_ge g w.heap.size with hlt | hge
  · exact hlt
  · unfold Blk at h; rw [Array.getElem?_eq_none hge] at h; cases h
theorem Blk.cell (h : Blk w g t cs) (i : Nat) : w.cell? ⟨g, i, none⟩ = cs[i]? := cell_of_row w g i cs t (0, 0) h
theorem Blk.frozen (h : Blk w g t cs) (i : Nat) : w.frozen? ⟨g, i, none⟩ = false := by
  unfold Blk at h
  simp [World.frozen?, h]
theorem Blk.new (w : World) (t : TypeId) (cs : Array Value) : Blk (w.alloc (.cells cs t)) w.heap.size t cs := heap_alloc_new w _
theorem Blk.drew (h : Blk w g t cs) : Blk w.drew g t cs := h
theorem Blk.alloc (h : Blk w g t cs) (o : Obj) : Blk (w.alloc o) g t cs := (Below.heap_alloc w o g h.lt).trans h
theorem Blk.put (h : Blk w g t cs) (i : Nat) (u : Value) : Blk (w.setCell ⟨g, i, none⟩ u) g t (cs.setIfInBounds i u) := by
  unfold Blk at h ⊢
  simp [World.setCell, Array.getElem?_modify, h]
theorem Blk.far (h : Blk w g t cs) {p : Addr} (hp : g ≠ p.block) (u : Value) : Blk (w.setCell p u) g t cs := (Below.heap_setCell w p u g hp).trans h
theorem Blk.below {B : Nat} (h : Blk w g t cs) (hb : Below B w w') (hg : g < B) : Blk w' g t cs := (hb.block g hg).trans h
theorem Blk.grown {row : Option Nat} (h : Blk w g t cs) (hb : w.grownBy w' row) (hg : some g ≠ row) : Blk w' g t cs := (hb.block g h.lt hg).trans h
end
theorem only_drewN {a w : World} {row : Option Nat} (h : a.grownBy w row) (n : Nat) : a.grownBy (w.drewN n) row := ⟨h.os, h.tape, h.output, h.size, h.block⟩
theorem only_drew {a w : World} {row : Option Nat} (h : a.grownBy w row) : a.grownBy w.drew row := ⟨h.os, h.tape, h.output, h.size, h.block⟩
theorem only_alloc {a w : World} {row : Option Nat} (h : a.grownBy w row) (o : Obj) : a.grownBy (w.alloc o) row :=
  ⟨h.os, h.tape, h.output, Nat.le_trans h.size (by simp), fun i hi hne => (Below.heap_alloc w o i (Nat.lt_of_lt_of_le hi h.size)).trans (h.block i hi hne)⟩
theorem only_setCell {a w : World} {g : Nat} (h : a.grownBy w (some g)) {p : Addr} (hp : p.block = g ∨ a.heap.size ≤ p.block) (u : Value) : a.grownBy (w.setCell p u) (some g) :=
  ⟨h.os, h.tape, h.output, by simpa [World.setCell] using h.size, fun i hi hne => (Below.heap_setCell w p u i (by
    rintro rfl
    rcases hp with hp | hp
    · exact hne (by rw [hp])
    · omega)).trans (h.block i hi hne)⟩
theorem only_of_below {a w : World} (h : Below a.heap.size a w) (row : Option Nat) : a.grownBy w row := ⟨h.os, h.tape, h.output, h.size, fun i hi _ => h.block i hi⟩
theorem only_trans {a b c : World} {row : Option Nat} (h : a.grownBy b row) (k : b.grownBy c row) : a.grownBy c row :=
  ⟨k.os.trans h.os, k.tape.trans h.tape, k.output.trans h.output, Nat.le_trans h.size k.size, fun i hi hn => (k.block i (Nat.lt_of_lt_of_le hi h.size) hn).trans (h.block i hi hn)⟩
theorem below_of_only {a b : World} {g B : Nat} (h : a.grownBy b (some g)) (hB : B ≤ a.heap.size) (hg : B ≤ g) : Below B a b :=
  ⟨h.os, h.tape, h.output, h.size, fun k hk => h.block k (by omega) (fun e => by injection e with e; omega)⟩
end Go.Proofs.YtogdbfjagnbllaaGreatDoor
