/-
  What a reader by its mark tells: the one item that could have that text, whatever the text is; plain facts.
  What strings.Cut and strings.CutPrefix give at a text of one byte: plain facts.
  An item is stored in a block of its own.
  Plain mathematics, no program: strconv.Atoi's reading of a number's own decimal text is that number; what it reads is an int.
  impl.ReadDec answers the number of -9999999999 .. 9999999999 whose decimal text its argument is, and true; or 0 and false.
  spec.ReadHex answers the number whose digits in base 16 its argument is, and true; or 0 and false.
  strconv's ParseUint at base 16 and 32 bits, as far as a caller asks who writes what was read back: a number or an error; and of a number's own text that number.
  What the listed package-level variables give a walk: strconv's two errors.
  impl.ReadHex reads the number whose digits in base 16 its argument is; laws.FnExactReadHex answers true at every text.
-/
import Derived.Test.YtogdbfjagnbllaaGreatDoorRI2
import Derived.RowKit
import Derived.Lib.IndexMore
import Derived.Lib.IndexBytes
import Derived.Lib.Strings
import Derived.Test.YtogdbfjagnbllaaGreatDoorRI4
import Derived.Test.YtogdbfjagnbllaaGreatDoorRI1
import Derived.Lib.AtoiAll
import Derived.Test.YtogdbfjagnbllaaGreatDoorRI6
import Derived.Test.YtogdbfjagnbllaaGreatDoorShelf
import Derived.BigQuiet
import Derived.Deep.QuietTactic
import Derived.Lib.AtoiErrMem
import Derived.Lib.ConvBytes
import Derived.Laws.BitsAllLaws
import Derived.Laws.BitsLemmas
import Derived.BigCall
import Derived.BigGuard
namespace Go.Proofs.YtogdbfjagnbllaaGreatDoor
open Go Go.RowKit

/-- Whatever item has the mark and the tail is this one. -/
def OnlyItem (c : UInt8) (l : List UInt8) (it : It) : Prop := ItIn it ∧ ∀ j : It, ItIn j → ItForm j → markOf j.kind = c → tailOf j = l → it = j

theorem mark_is {k : Int} (h : 0 ≤ k ∧ k ≤ 9) : k = 0 ∨ k = 1 ∨ k = 2 ∨ k = 3 ∨ k = 4 ∨ k = 5 ∨ k = 6 ∨ k = 7 ∨ k = 8 ∨ k = 9 := by omega
theorem kind_mark {k a b : Int} {c : UInt8} (h : 0 ≤ k ∧ k ≤ 9) (hm : markOf k = c) (hc : ∀ j : Int, (j = 0 ∨ j = 1 ∨ j = 2 ∨ j = 3 ∨ j = 4 ∨ j = 5 ∨ j = 6 ∨ j = 7 ∨ j = 8 ∨ j = 9) → markOf j = c → j = a ∨ j = b) : k = a ∨ k = b := hc k (mark_is h) hm
theorem only_in {k n : Int} {nm : ByteArray} {x : Bool} {r : Nat} (hk : -1 ≤ k ∧ k ≤ 9) (n1 : -2147483648 ≤ n) (n2 : n ≤ 2147483647) (hr : r < 4294967296) (hs : nm.size ≤ 4611686018427387904) : ItIn ⟨k, nm, n, x, r⟩ :=
  ⟨by show _ ≤ k; omega, by show k ≤ _; omega, n1, n2, hr, hs⟩
theorem wrap_in (n : Int) : -2147483648 ≤ wrap32 n ∧ wrap32 n ≤ 2147483647 := by unfold wrap32; omega
theorem wrap_id {n : Int} (h1 : -2147483648 ≤ n) (h2 : n ≤ 2147483647) : wrap32 n = n := by unfold wrap32; omega
theorem zero_name : noText.size ≤ 4611686018427387904 := by decide

theorem only_raw {l : List UInt8} {n : Nat} {b : Bool} (h : ReadsHex l n b) (hn : n < 4294967296) : OnlyItem 37 l ⟨0, noText, 0, false, n⟩ := by
  refine ⟨only_in (by omega) (by omega) (by omega) hn zero_name, fun j ji jf jm jt => ?_⟩
  have hk : j.kind = 0 ∨ j.kind = 0 := kind_mark (form_kind jf) jm (by rintro j (rfl | rfl | rfl | rfl | rfl | rfl | rfl | rfl | rfl | rfl) <;> decide)
  have jk : j.kind = 0 := by omega
  rw [tail_raw jk] at jt
  rcases jf with ⟨_, e1, e2, e3⟩ | ⟨h0, _⟩ | ⟨h0, _⟩ | ⟨h0, _⟩
  · obtain ⟨k, nm, m, x, r⟩ := j
    simp only at jk e1 e2 e3 jt
    subst jk e1 e2 e3
    rcases h with ⟨h1, h2, h3⟩ | ⟨h1, h2, h3⟩
    · rw [hex_inj (jt.trans h3)]
    · exact absurd jt.symm (h3 r ji.r)
  all_goals omega
theorem only_word {k : Int} (hk : k = 2 ∨ k = 4 ∨ k = 5 ∨ k = 6) {nm : ByteArray} (hs : nm.size ≤ 4611686018427387904) {l : List UInt8} (hl : nm.data.toList = l) : OnlyItem (markOf k) l ⟨k, nm, 0, false, 0⟩ := by
  refine ⟨only_in (by omega) (by omega) (by omega) (by omega) hs, fun j ji jf jm jt => ?_⟩
  have hk2 : j.kind = k ∨ j.kind = k := kind_mark (form_kind jf) jm (by rcases hk with rfl | rfl | rfl | rfl <;> rintro j (rfl | rfl | rfl | rfl | rfl | rfl | rfl | rfl | rfl | rfl) <;> decide)
  have jk : j.kind = k := by omega
  rw [tail_word (by omega)] at jt
  rcases jf with ⟨h0, _⟩ | ⟨h0, _⟩ | ⟨h0, _⟩ | ⟨_, e1, e2, e3, e4⟩
  · omega
  · omega
  · omega
  · obtain ⟨k', nm', m, x, r⟩ := j
    simp only at jk e1 e2 e3 jt
    subst jk e1 e2 e3
    rw [bytes_of_list (hl.trans jt.symm)]
theorem only_none {c : UInt8} (hc : ∀ k : Int, 0 ≤ k → k ≤ 9 → markOf k ≠ c) (l : List UInt8) {it : It} (hi : ItIn it) : OnlyItem c l it :=
  ⟨hi, fun _ _ jf jm _ => absurd jm (hc _ (form_kind jf).1 (form_kind jf).2)⟩
/-- The marks that words and numbers share. -/
def Shared (w k : Int) : Prop := (w = 1 ∧ k = 7) ∨ (w = 3 ∧ k = 8)
theorem shared_kind {w k : Int} (hs : Shared w k) {j : Int} (hj : 0 ≤ j ∧ j ≤ 9) (h : markOf j = markOf w) : j = w ∨ j = k := by
  rcases hs with ⟨rfl, rfl⟩ | ⟨rfl, rfl⟩ <;> rcases mark_is hj with rfl | rfl | rfl | rfl | rfl | rfl | rfl | rfl | rfl | rfl <;> first | omega | exact absurd h (by decide)
theorem only_plain {w k : Int} (hw : Shared w k) {nm : ByteArray} (hs : nm.size ≤ 4611686018427387904) {l : List UInt8} (hl : nm.data.toList = l) (h1 : ∀ m, l ≠ 36 :: m) (h2 : ∀ m, l ≠ 35 :: m) :
    OnlyItem (markOf w) l ⟨w, nm, 0, false, 0⟩ := by
  have hw1 : w = 1 ∨ w = 3 := by rcases hw with h | h <;> omega
  refine ⟨only_in (by omega) (by omega) (by omega) (by omega) hs, fun j ji jf jm jt => ?_⟩
  have jk := shared_kind hw (form_kind jf) jm
  by_cases hk : j.kind = 7 ∨ j.kind = 8
  · rw [tail_num hk] at jt
    split at jt
    · exact absurd jt.symm (h1 _)
    · exact absurd jt.symm (h2 _)
  have jk2 : j.kind = w := by rcases hw with h | h <;> omega
  rw [tail_word (by omega)] at jt
  rcases jf with ⟨h0, _⟩ | ⟨h0, _⟩ | ⟨h0, _⟩ | ⟨_, e1, e2, e3, e4⟩
  · omega
  · omega
  · omega
  · obtain ⟨k', nm', m, x, r⟩ := j
    simp only at jk2 e1 e2 e3 jt
    subst jk2 e1 e2 e3
    rw [bytes_of_list (hl.trans jt.symm)]
theorem shared_num {w k : Int} (hw : Shared w k) {j : It} (jf : ItForm j) (jm : markOf j.kind = markOf w) {c : UInt8} {l : List UInt8} (hc : c = 35 ∨ c = 36) (jt : tailOf j = c :: l) : j.kind = k ∧ (k = 7 ∨ k = 8) := by
  have jk := shared_kind hw (form_kind jf) jm
  obtain ⟨d, m, e, hd⟩ := tail_first jf
  rw [jt] at e
  injection e with e1 e2
  have := hd.1 (by rw [← e1]; exact hc)
  rcases hw with h | h <;> omega
theorem only_hex {w k : Int} (hw : Shared w k) {l : List UInt8} {n : Nat} {b : Bool} (h : ReadsHex l n b) (hn : n < 4294967296) : OnlyItem (markOf w) (36 :: l) ⟨k, noText, sgn n, true, 0⟩ := by
  have hs := sgn_in hn
  have hk : k = 7 ∨ k = 8 := by rcases hw with h | h <;> omega
  refine ⟨only_in (by omega) hs.1 hs.2 (by omega) zero_name, fun j ji jf jm jt => ?_⟩
  obtain ⟨jk, _⟩ := shared_num hw jf jm (.inr rfl) jt
  rw [tail_num (by omega)] at jt
  rcases jf with ⟨h0, _⟩ | ⟨_, e1, e2⟩ | ⟨h0, _⟩ | ⟨h0, _⟩
  · omega
  · obtain ⟨k', nm, m, x, r⟩ := j
    have j1 := ji.n1
    have j2 := ji.n2
    simp only at jk e1 e2 jt j1 j2
    subst jk e1 e2
    cases x with
    | false => simp at jt
    | true =>
      simp only [if_true, List.cons.injEq, true_and] at jt
      rcases h with ⟨h1, h2, h3⟩ | ⟨h1, h2, h3⟩
      · have e := hex_inj (jt.trans h3)
        rw [← e, sgn_low j1 j2]
      · exact absurd jt.symm (h3 _ (lowN_lt _))
  all_goals omega
theorem reads_wrap {l : List UInt8} {n : Int} {b : Bool} (h : ReadsDec l n b) {m : Int} (m1 : -2147483648 ≤ m) (m2 : m ≤ 2147483647) (e : Lib.itoa m = l) : wrap32 n = m := by
  rcases h with ⟨h1, h2, h3, h4⟩ | ⟨h1, h2, h3⟩
  · rw [← itoa_inj (e.trans h4), wrap_id m1 m2]
  · exact absurd e.symm (h3 m (by omega) (by omega))
theorem only_dec {w k : Int} (hw : Shared w k) {l : List UInt8} {n : Int} {b : Bool} (h : ReadsDec l n b) : OnlyItem (markOf w) (35 :: l) ⟨k, noText, wrap32 n, false, 0⟩ := by
  have hs := wrap_in n
  have hk : k = 7 ∨ k = 8 := by rcases hw with h | h <;> omega
  refine ⟨only_in (by omega) hs.1 hs.2 (by omega) zero_name, fun j ji jf jm jt => ?_⟩
  obtain ⟨jk, _⟩ := shared_num hw jf jm (.inl rfl) jt
  rw [tail_num (by omega)] at jt
  rcases jf with ⟨h0, _⟩ | ⟨_, e1, e2⟩ | ⟨h0, _⟩ | ⟨h0, _⟩
  · omega
  · obtain ⟨k', nm, m, x, r⟩ := j
    have j1 := ji.n1
    have j2 := ji.n2
    simp only at jk e1 e2 jt j1 j2
    subst jk e1 e2
    cases x with
    | true => simp at jt
    | false =>
      simp only [Bool.false_eq_true, if_false, List.cons.injEq, true_and] at jt
      rw [reads_wrap h j1 j2 jt]
  all_goals omega
theorem only_var {nm : ByteArray} (hs : nm.size ≤ 4611686018427387904) {a l : List UInt8} (ha : nm.data.toList = a) (hn : (35 : UInt8) ∉ a) {n : Int} {b : Bool} (h : ReadsDec l n b) : OnlyItem 38 (a ++ 35 :: l) ⟨9, nm, wrap32 n, false, 0⟩ := by
  have hi := wrap_in n
  refine ⟨only_in (by omega) hi.1 hi.2 (by omega) hs, fun j ji jf jm jt => ?_⟩
  have hk : j.kind = 9 ∨ j.kind = 9 := kind_mark (form_kind jf) jm (by rintro j (rfl | rfl | rfl | rfl | rfl | rfl | rfl | rfl | rfl | rfl) <;> decide)
  have jk : j.kind = 9 := by omega
  rw [tail_var jk] at jt
  rcases jf with ⟨h0, _⟩ | ⟨h0, _⟩ | ⟨_, e1, e2, e3⟩ | ⟨h0, _⟩
  · omega
  · omega
  · obtain ⟨k', nm', m, x, r⟩ := j
    have j1 := ji.n1
    have j2 := ji.n2
    simp only at jk e1 e2 e3 jt j1 j2
    subst jk e1 e2
    obtain ⟨p1, p2⟩ := split_inj (nameL_noHash e3).1 hn jt
    rw [reads_wrap h j1 j2 p2, bytes_of_list (p1.trans ha.symm)]
  · omega
theorem only_var_no {l : List UInt8} (hn : (35 : UInt8) ∉ l) {it : It} (hi : ItIn it) : OnlyItem 38 l it := by
  refine ⟨hi, fun j ji jf jm jt => ?_⟩
  have hk : j.kind = 9 ∨ j.kind = 9 := kind_mark (form_kind jf) jm (by rintro j (rfl | rfl | rfl | rfl | rfl | rfl | rfl | rfl | rfl | rfl) <;> decide)
  have jk : j.kind = 9 := by omega
  rw [tail_var jk] at jt
  exact absurd (by rw [← jt]; simp) hn

/-- The item that a reader told is the one that the text is, where its text is that text; else the text is none's. -/
theorem only_yes {c : UInt8} {l : List UInt8} {it : It} (h : OnlyItem c l it) (e : textOf it = c :: l) : ReadsItem (c :: l) it true :=
  .inl ⟨rfl, fun h0 => (by rw [text_no h0] at e; cases e), h.1, e.symm⟩
theorem only_no {c : UInt8} {l : List UInt8} {it : It} (h : OnlyItem c l it) (e : textOf it ≠ c :: l) : ReadsItem (c :: l) (rawIt 0) false :=
  .inr ⟨rfl, rfl, fun j ji jc et => by
    have et2 := et
    rw [text_yes jc] at et2
    obtain ⟨e1, e2⟩ := List.cons.inj et2
    exact e (by rw [h.2 j ji (form_of jc) e1.symm e2.symm, ← et])⟩
theorem reads_empty : ReadsItem [] (rawIt 0) false := .inr ⟨rfl, rfl, fun j _ jc e => by have := text_len jc; rw [← e] at this; simp at this⟩
end Go.Proofs.YtogdbfjagnbllaaGreatDoor

namespace Go.Proofs.YtogdbfjagnbllaaGreatDoor
open Go

theorem indexByte_or : ∀ (l : List UInt8) (c : UInt8), (∃ a m, l = a ++ c :: m ∧ c ∉ a ∧ Lib.indexByte l c = (a.length : Int)) ∨ (c ∉ l ∧ Lib.indexByte l c = -1)
  | [], _ => .inr ⟨by simp, rfl⟩
  | b :: l, c => by
    by_cases hb : b = c
    · subst hb
      exact .inl ⟨[], l, rfl, by simp, by simp [Lib.indexByte]⟩
    · have hb2 : (b == c) = false := by simpa using hb
      rcases indexByte_or l c with ⟨a, m, h1, h2, h3⟩ | ⟨h1, h2⟩
      · refine .inl ⟨b :: a, m, by rw [h1]; rfl, by simp [h2]; exact fun e => hb e.symm, ?_⟩
        have h4 : ((a.length : Int) == -1) = false := by simp
        simp [Lib.indexByte, hb2, h3, h4]
      · refine .inr ⟨by simp [h1]; exact fun e => hb e.symm, ?_⟩
        simp [Lib.indexByte, hb2, h2]
theorem cut_one (l : List UInt8) (c : UInt8) : (∃ a m, l = a ++ c :: m ∧ c ∉ a ∧ Lib.cut l [c] = (a, m, true)) ∨ (c ∉ l ∧ Lib.cut l [c] = (l, [], false)) := by
  rcases indexByte_or l c with ⟨a, m, h1, h2, h3⟩ | ⟨h1, h2⟩
  · refine .inl ⟨a, m, h1, h2, ?_⟩
    unfold Lib.cut
    rw [Lib.index_one, h3, if_pos (by omega), h1]
    simp
  · refine .inr ⟨h1, ?_⟩
    unfold Lib.cut
    rw [Lib.index_one, h2, if_neg (by omega)]
theorem prefix_one (l : List UInt8) (c : UInt8) : (∃ m, l = c :: m ∧ Lib.hasPrefix l [c] = true ∧ Lib.trimPrefix l [c] = m) ∨ ((∀ m, l ≠ c :: m) ∧ Lib.hasPrefix l [c] = false) := by
  cases l with
  | nil => exact .inr ⟨fun m h => (by cases h), rfl⟩
  | cons b l =>
    by_cases hb : c = b
    · subst hb
      refine .inl ⟨l, rfl, by simp [Lib.hasPrefix, List.isPrefixOf], by simp [Lib.trimPrefix, Lib.hasPrefix, List.isPrefixOf]⟩
    · exact .inr ⟨fun m h => hb (by injection h with h1 _; exact h1.symm), by simp [Lib.hasPrefix, List.isPrefixOf, hb]⟩
/-- Where a mark stands among the marks. -/
def marksL : List UInt8 := [37, 126, 58, 61, 34, 94, 95, 126, 61, 38]
theorem mark_at : Lib.indexByte marksL 37 = 0 ∧ Lib.indexByte marksL 126 = 1 ∧ Lib.indexByte marksL 58 = 2 ∧ Lib.indexByte marksL 61 = 3 ∧ Lib.indexByte marksL 34 = 4 ∧ Lib.indexByte marksL 94 = 5 ∧ Lib.indexByte marksL 95 = 6 ∧ Lib.indexByte marksL 38 = 9 := by decide
theorem mark_none {c : UInt8} (h : c ∉ marksL) : Lib.indexByte marksL c = -1 := by
  rcases indexByte_or marksL c with ⟨a, m, h1, _, _⟩ | ⟨_, h2⟩
  · exact absurd (by rw [h1]; simp) h
  · exact h2
end Go.Proofs.YtogdbfjagnbllaaGreatDoor

namespace Go.Proofs.YtogdbfjagnbllaaGreatDoor
open Go.RowKit Go

def putIt (w : World) (g : Nat) (k : Int) (nm : ByteArray) (n : Int) (hx : Bool) (r : Int) : World := ((((w.setCell ⟨g, 0, none⟩ (.int .i64 k)).setCell ⟨g, 1, none⟩ (.string nm)).setCell ⟨g, 2, none⟩ (.int .i32 n)).setCell ⟨g, 3, none⟩ (.bool hx)).setCell ⟨g, 4, none⟩ (.int .u32 r)
theorem putIt_below {B : Nat} {w w1 : World} {g : Nat} (h : Below B w w1) (hg : B ≤ g) (k : Int) (nm : ByteArray) (n : Int) (hx : Bool) (r : Int) : Below B w (putIt w1 g k nm n hx r) :=
  ((((h.setCell hg _).setCell hg _).setCell hg _).setCell hg _).setCell hg _
theorem putIt_blk {w : World} {g : Nat} {t : TypeId} {k0 : Int} {nm0 : ByteArray} {n0 : Int} {hx0 : Bool} {r0 : Int} (h : Blk w g t (itC k0 nm0 n0 hx0 r0)) (k : Int) (nm : ByteArray) (n : Int) (hx : Bool) (r : Int) : Blk (putIt w g k nm n hx r) g t (itC k nm n hx r) := item_put h k nm n hx r
theorem res_blk {w w1 : World} {t : TypeId} {cs : Array Value} (h : Below (w.heap.size + 1) (w.alloc (.cells cs t)) w1) : Blk w1 w.heap.size t cs := (Blk.new w t cs).below h (by omega)
end Go.Proofs.YtogdbfjagnbllaaGreatDoor

namespace Go.Proofs.YtogdbfjagnbllaaGreatDoor

theorem fold_ge : ∀ (l : List UInt8) (acc : Nat), acc ≤ l.foldl (fun a c => 10 * a + (c.toNat - 48)) acc
  | [], acc => Nat.le_refl _
  | c :: r, acc => by
    have := fold_ge r (10 * acc + (c.toNat - 48))
    simp only [List.foldl_cons]
    omega
theorem parse_fold : ∀ (l : List UInt8) (acc : Nat), (∀ c ∈ l, DigB c) → l.foldl (fun a c => 10 * a + (c.toNat - 48)) acc < 9223372036854775808 → Lib.parseUint10 acc l = .ok (l.foldl (fun a c => 10 * a + (c.toNat - 48)) acc)
  | [], acc, _, _ => by simp [Lib.parseUint10]
  | c :: r, acc, hd, hl => by
    have h1 := fold_ge r (10 * acc + (c.toNat - 48))
    have hc := hd c (by simp)
    unfold DigB at hc
    simp only [List.foldl_cons] at hl ⊢
    rw [Lib.parseUint10, if_pos hc, if_neg (by omega), if_neg (by omega), show acc * 10 + (c.toNat - 48) = 10 * acc + (c.toNat - 48) by omega]
    exact parse_fold r _ (fun x hx => hd x (by simp [hx])) hl
theorem parseMag_dec {u : Nat} (h : u < 9223372036854775808) : Lib.parseMag (Lib.decDigits u) = .ok u := by
  unfold Lib.parseMag
  rw [if_neg (decDigits_ne u)]
  have := parse_fold (Lib.decDigits u) 0 (decDigits_all u) (by have := dval_decDigits u; unfold dval at this; omega)
  rw [this]
  exact congrArg _ (dval_decDigits u)
theorem atoi_itoa {m : Int} (h0 : -9999999999 ≤ m) (h1 : m ≤ 9999999999) : Lib.atoiAll (Lib.itoa m) = .ok m := by
  by_cases hm : m < 0
  · have e : Lib.itoa m = 45 :: Lib.decDigits m.natAbs := by simp [Lib.itoa, hm]
    rw [e]
    simp only [Lib.atoiAll]
    rw [if_pos (by right; decide), parseMag_dec (by omega)]
    simp only
    rw [if_neg (by rintro ⟨h, _⟩; exact h (by decide)), if_neg (by omega), if_pos (by decide)]
    congr 1; omega
  · have e : Lib.itoa m = Lib.decDigits m.natAbs := by simp [Lib.itoa, hm]; congr 1; omega
    have hd := decDigits_all m.natAbs
    have hp := parseMag_dec (u := m.natAbs) (by omega)
    rw [e]
    generalize Lib.decDigits m.natAbs = l at hd hp
    cases l with
    | nil => simp [Lib.parseMag] at hp
    | cons c r =>
      have hc := hd c (by simp)
      unfold DigB at hc
      simp only [Lib.atoiAll]
      rw [if_neg (by omega), hp]
      simp only
      rw [if_neg (by omega), if_neg (by omega), if_neg (by omega)]
      congr 1; omega
theorem atoi_bounds {l : List UInt8} {v : Int} (h : Lib.atoiAll l = .ok v) : -9223372036854775808 ≤ v ∧ v ≤ 9223372036854775807 := by
  unfold Lib.atoiAll at h
  split at h
  · cases h
  · simp only at h
    split at h
    · cases h
    · cases h
    · split at h
      · cases h
      · split at h
        · cases h
        · injection h with h
          split at h <;> omega
theorem no_text {l : List UInt8} {v : Int} (hv : Lib.atoiAll l = .ok v) (h : -9999999999 ≤ v → v ≤ 9999999999 → l ≠ Lib.itoa v) : ∀ m : Int, -9999999999 ≤ m → m ≤ 9999999999 → l ≠ Lib.itoa m := fun m h0 h1 e => by
  have := atoi_itoa h0 h1
  rw [← e, hv] at this
  injection this with this
  subst this
  exact h h0 h1 e
end Go.Proofs.YtogdbfjagnbllaaGreatDoor

namespace Go.Proofs.YtogdbfjagnbllaaGreatDoor
open Go.RowKit

/-- strconv.Atoi, as far as a caller that writes what was read back asks: a number, or an error that is not nil. -/
theorem atoi_any (s : ByteArray) (hs : s.size ≤ 1048576) (w : World) (hc0 : ∃ t p, w.cell? ⟨4, 0, none⟩ = some (.iface t p)) (hc1 : ∃ t p, w.cell? ⟨5, 0, none⟩ = some (.iface t p)) :
    Calls Tryz.prog 124 #[.string s] w fun e w' => Below w.heap.size w w' ∧ ((∃ v, e = .returned (.tuple #[.int .i64 v, .nilIface]) ∧ Lib.atoiAll s.data.toList = .ok v) ∨ (∃ v t p, e = .returned (.tuple #[.int .i64 v, .iface t p]) ∧ ∀ v, Lib.atoiAll s.data.toList ≠ .ok v)) := by
  cases h : Lib.atoiAll s.data.toList
  · rename_i v
    refine (Tryz.strconv_Atoi_ok s (by omega) v h w).mono fun e w' ⟨he, hw⟩ => ⟨?_, .inl ⟨v, he, rfl⟩⟩
    rcases hw with rfl | ⟨t, rfl⟩
    · exact Below.refl _ _
    · exact Lib.bytesWorld_below _ _ _
  · obtain ⟨t, p, hc⟩ := hc0
    refine (Any.strconv_Atoi_syntax Tryz.laysC172 s (by omega) h _ w hc (.inr ⟨t, p, rfl⟩)).mono fun e w' ⟨N, he, _, _, hb⟩ => ⟨hb, .inr ⟨_, _, _, he, fun v => by intro h; cases h⟩⟩
  · obtain ⟨t, p, hc⟩ := hc1
    refine (Tryz.strconv_Atoi_range s (by omega) h _ w hc (.inr ⟨t, p, rfl⟩)).mono fun e w' ⟨N, he, _, _, hb⟩ => ⟨hb, .inr ⟨_, _, _, he, fun v => by intro h; cases h⟩⟩

/-- How reading a text ends. -/
def ReadOut (l : List UInt8) (w : World) (e : Ending) (w' : World) : Prop := ∃ n b, e = .returned (.tuple #[.int .i64 n, .bool b]) ∧ ReadsDec l n b ∧ Below w.heap.size w w'
theorem ReadOut.yes {l : List UInt8} {w w' : World} {v : Int} (h0 : -9999999999 ≤ v) (h1 : v ≤ 9999999999) (h : l = Lib.itoa v) (hb : Below w.heap.size w w') : ReadOut l w (.returned (.tuple #[.int .i64 v, .bool true])) w' :=
  ⟨v, true, rfl, .inl ⟨rfl, h0, h1, h⟩, hb⟩
theorem ReadOut.no {l : List UInt8} {w w' : World} (h : ∀ m : Int, -9999999999 ≤ m → m ≤ 9999999999 → l ≠ Lib.itoa m) (hb : Below w.heap.size w w') : ReadOut l w (.returned (.tuple #[.int .i64 0, .bool false])) w' :=
  ⟨0, false, rfl, .inr ⟨rfl, rfl, h⟩, hb⟩

set_option maxRecDepth 100000 in
theorem impl_readdec (s : ByteArray) (hs : s.size ≤ 1048576) (w : World) (hc0 : ∃ t p, w.cell? ⟨4, 0, none⟩ = some (.iface t p)) (hc1 : ∃ t p, w.cell? ⟨5, 0, none⟩ = some (.iface t p))
    (ht : Lib.TabIs Tryz.prog w "internal/strconv.uint64pow10" .u64 Lib.pow10Tab) :
    Calls Tryz.prog 106 #[.string s] w (ReadOut s.data.toList w) := by
  have HC := Lib.hid (atoi_any s hs w hc0 hc1)
  have HT := Lib.hid ht
  clear hc0 hc1 ht
  go_enter Tryz.func106, Tryz.ntmps106
  go_wp2_with fail
  refine HC.out.mono ?_
  rintro e w1 ⟨hb, ⟨v, rfl, hv⟩ | ⟨v, t, p, rfl, hv⟩⟩
  · have hbd := atoi_bounds hv
    have HV := Lib.hid hv
    clear hv
    by_cases h0 : v < -9999999999
    · go_wp2_with fail
      go_ret2
      exact ReadOut.no (no_text HV.out (by omega)) hb
    · by_cases h1 : 9999999999 < v
      · go_wp2_with fail
        go_ret2
        exact ReadOut.no (no_text HV.out (by omega)) hb
      · by_cases he : Lib.itoa v = s.data.toList
        · have he1 : (!Lib.itoa v == s.toList) = false := by rw [ByteArray.toList_eq, he]; simp
          have HE := Lib.hid he
          clear he
          go_wp2_with (go_at_call 56; refine (impl_dectext _ hbd.1 hbd.2 _ (tab_below HT.out hb)).mono ?_; rintro e w2 ⟨rfl, hb2⟩)
          go_ret2
          exact ReadOut.yes (by omega) (by omega) HE.out.symm (hb.trans (hb2.mono hb.size))
        · have he1 : (!Lib.itoa v == s.toList) = true := by rw [ByteArray.toList_eq]; simpa using he
          have HE := Lib.hid he
          clear he
          go_wp2_with (go_at_call 56; refine (impl_dectext _ hbd.1 hbd.2 _ (tab_below HT.out hb)).mono ?_; rintro e w2 ⟨rfl, hb2⟩)
          go_ret2
          exact ReadOut.no (no_text HV.out (fun _ _ h => HE.out h.symm)) (hb.trans (hb2.mono hb.size))
  · have NO : Hid (∀ m : Int, -9999999999 ≤ m → m ≤ 9999999999 → s.data.toList ≠ Lib.itoa m) := Lib.hid fun m h0 h1 e => hv m (by rw [e]; exact atoi_itoa h0 h1)
    clear hv
    go_wp2_with fail
    go_ret2
    exact ReadOut.no NO.out hb
end Go.Proofs.YtogdbfjagnbllaaGreatDoor

namespace Go.Proofs.YtogdbfjagnbllaaGreatDoor
open Go.RowKit

/-- How reading a text in base 16 ends. -/
def HexOut (l : List UInt8) (w : World) (e : Ending) (w' : World) : Prop := ∃ (n : Nat) (b : Bool), e = .returned (.tuple #[.int .u32 n, .bool b]) ∧ ReadsHex l n b ∧ Below w.heap.size w w'
theorem HexOut.yes {l : List UInt8} {w w' : World} {n : Nat} (h0 : n < 4294967296) (h : l = hexDigits n) (hb : Below w.heap.size w w') : HexOut l w (.returned (.tuple #[.int .u32 n, .bool true])) w' :=
  ⟨n, true, rfl, .inl ⟨rfl, h0, h⟩, hb⟩
theorem HexOut.no {l : List UInt8} {w w' : World} (h : ∀ m : Nat, m < 4294967296 → l ≠ hexDigits m) (hb : Below w.heap.size w w') : HexOut l w (.returned (.tuple #[.int .u32 0, .bool false])) w' :=
  ⟨0, false, rfl, .inr ⟨rfl, rfl, h⟩, hb⟩

def hv (l : List UInt8) (k : Nat) : Nat := hval (l.take k)
theorem hv_succ {l : List UInt8} {k : Nat} (h : k < l.length) : hv l (k + 1) = 16 * hv l k + hval1 l[k] := by
  unfold hv
  rw [List.take_succ_eq_append_getElem h, hval_snoc]

set_option maxRecDepth 100000 in
set_option maxHeartbeats 2000000 in
theorem spec_readhex (s : ByteArray) (hs : s.size ≤ 1048576) (w : World) :
    Calls Tryz.prog 87 #[.string s] w (HexOut s.data.toList w) := by
  have hsl : s.data.toList.length = s.size := by simp
  by_cases hl : 1 ≤ s.size ∧ s.size ≤ 8
  · obtain ⟨hl1, hl2⟩ := hl
    have i1 : inB (s.size : Int) 1 8 = true := inB_true (by omega) (by omega)
    go_enter Tryz.func87, Tryz.ntmps87
    go_wp2_with (first | (go_at_call 112; refine (in_any _ _ _ _).mono ?_; rintro e w' ⟨rfl, rfl⟩))
    go_loop [4, 5] (fun n i => ∃ k v : Nat, k ≤ s.size ∧ i = .int .i64 k ∧ n = .int .i64 v ∧ v < 16 ^ k ∧ Hid (v = hv s.data.toList k)) (fun _ i => s.size - (intOf i).toNat)
    case atStart => exact ⟨0, 0, by omega, rfl, rfl, by decide, Lib.hid (by simp [hv, hval])⟩
    case round =>
      obtain ⟨k, v, hk, rfl, rfl, hlt, HV⟩ := hrel
      have hpow : 16 ^ k ≤ 16 ^ 8 := Nat.pow_le_pow_right (by decide) (by omega)
      have hvb : (v : Int) < 4294967296 := by simp only [Nat.reducePow] at hpow; omega
      have HL := Lib.hid hlt
      clear hpow hlt
      by_cases hks : k < s.size
      · have hg : s.data.toList[k]'(by omega) = s[k] := by rfl
        have hsn := hv_succ (l := s.data.toList) (k := k) (by omega)
        rw [hg] at hsn
        have HS := Lib.hid hsn
        have HM : Hid (s[k] ∈ s.data.toList) := Lib.hid (by rw [← hg]; exact List.getElem_mem _)
        clear hsn hg
        by_cases hd : 48 ≤ s[k].toNat ∧ s[k].toNat ≤ 57
        · have hin : inB (s[k].toNat : Int) 48 57 = true := inB_true (by omega) (by omega)
          obtain ⟨hd1, hd2⟩ := hd
          have fin : 16 * v + s[k].toNat - 48 = hv s.data.toList (k + 1) ∧ 16 * v + s[k].toNat - 48 < 16 ^ (k + 1) := by
            have h1 := HV.out
            have h2 := HL.out
            rw [HS.out, ← h1, Nat.pow_succ]
            unfold hval1
            rw [if_pos hd2]
            omega
          have F1 := Lib.hid fin
          clear fin
          go_wp2_with (first | (go_at_call 113; refine (digit_u8 _ _).mono ?_; rintro e w' ⟨rfl, rfl⟩))
          go_round
          case rel => exact ⟨k + 1, 16 * v + s[k].toNat - 48, by omega, by go_num, by go_num, F1.out.2, F1.out.1⟩
          case measure => simp [intOf]; omega
        · have hin : inB (s[k].toNat : Int) 48 57 = false := inB_false (by omega)
          by_cases hx : 97 ≤ s[k].toNat ∧ s[k].toNat ≤ 102
          · have hin2 : inB (s[k].toNat : Int) 97 102 = true := inB_true (by omega) (by omega)
            obtain ⟨hd1, hd2⟩ := hx
            have fin : 16 * v + s[k].toNat - 87 = hv s.data.toList (k + 1) ∧ 16 * v + s[k].toNat - 87 < 16 ^ (k + 1) := by
              have h1 := HV.out
              have h2 := HL.out
              rw [HS.out, ← h1, Nat.pow_succ]
              unfold hval1
              rw [if_neg (by omega)]
              omega
            have F1 := Lib.hid fin
            clear fin hd
            go_wp2_with (first | (go_at_call 113; refine (digit_u8 _ _).mono ?_; rintro e w' ⟨rfl, rfl⟩) | (go_at_call 112; refine (in_any _ _ _ _).mono ?_; rintro e w' ⟨rfl, rfl⟩))
            go_round
            case rel => exact ⟨k + 1, 16 * v + s[k].toNat - 87, by omega, by go_num, by go_num, F1.out.2, F1.out.1⟩
            case measure => simp [intOf]; omega
          · have hin2 : inB (s[k].toNat : Int) 97 102 = false := inB_false (by omega)
            have NO : Hid (∀ m : Nat, m < 4294967296 → s.data.toList ≠ hexDigits m) := Lib.hid fun m _ h => by
              have hm := HM.out
              rw [h] at hm
              rcases hex_all _ _ hm with h | h
              · exact hd h
              · exact hx h
            have hc256 := u8_le s[k]
            clear hd hx hvb
            go_wp2_with (first | (go_at_call 113; refine (digit_u8 _ _).mono ?_; rintro e w' ⟨rfl, rfl⟩) | (go_at_call 112; refine (in_any _ _ _ _).mono ?_; rintro e w' ⟨rfl, rfl⟩))
            go_ret2
            exact HexOut.no NO.out (Below.refl _ _)
      · have hke : k = s.size := by omega
        have hval : v = hval s.data.toList := by rw [HV.out]; unfold hv; rw [List.take_of_length_le (by omega)]
        have key : ∀ m : Nat, s.data.toList = hexDigits m → m = v := fun m h => by rw [hval, h, hval_hex]
        have KEY := Lib.hid key
        clear hval hke key
        by_cases he : hexDigits v = s.data.toList
        · have he1 : (!hexDigits v == s.toList) = false := by rw [ByteArray.toList_eq, he]; simp
          have HE := Lib.hid he
          clear he
          go_wp2_with (first | (go_at_call 70; refine (spec_hextext v (by omega) _).mono ?_; rintro e w' ⟨rfl, rfl⟩))
          go_ret2
          exact HexOut.yes (by omega) HE.out.symm (Below.refl _ _)
        · have he1 : (!hexDigits v == s.toList) = true := by rw [ByteArray.toList_eq]; simpa using he
          have HE := Lib.hid he
          clear he
          go_wp2_with (first | (go_at_call 70; refine (spec_hextext v (by omega) _).mono ?_; rintro e w' ⟨rfl, rfl⟩))
          go_ret2
          exact HexOut.no (fun m _ h => HE.out (by rw [h, KEY.out m h])) (Below.refl _ _)
  · have i1 : inB (s.size : Int) 1 8 = false := inB_false (by omega)
    go_enter Tryz.func87, Tryz.ntmps87
    go_wp2_with (first | (go_at_call 112; refine (in_any _ _ _ _).mono ?_; rintro e w' ⟨rfl, rfl⟩))
    go_ret2
    refine HexOut.no (fun m h0 h => hl ?_) (Below.refl _ _)
    have e1 := hex_len8 h0
    have e2 := List.length_pos_iff.2 (hex_ne m)
    rw [← h] at e1 e2
    omega
end Go.Proofs.YtogdbfjagnbllaaGreatDoor

namespace Go.Proofs.YtogdbfjagnbllaaGreatDoor
open Go.RowKit

theorem or32_fin : ∀ c : Fin 256, 97 ≤ c.val → c.val ≤ 102 → bits .or .u8 (c.val : Int) 32 = (c.val : Int) := by decide +kernel
theorem or32 (c : UInt8) (h0 : 97 ≤ c.toNat) (h1 : c.toNat ≤ 102) : bits .or .u8 (c.toNat : Int) 32 = (c.toNat : Int) := or32_fin ⟨c.toNat, c.toNat_lt⟩ h0 h1

/-- How the library's reading ends. -/
def Parsed (t : TypeId) (bs : List UInt8) (w : World) (e : Ending) (w' : World) : Prop :=
  ∃ (v : Int) (ev : Value), e = .returned (.tuple #[.int .u64 v, ev]) ∧ (0 ≤ v ∧ v < 18446744073709551616) ∧ (ev = .nilIface ∨ ev = .iface t (.int .i64 2) ∨ ev = .iface t (.int .i64 1)) ∧
    (∀ m : Nat, m < 4294967296 → bs = hexDigits m → ev = .nilIface ∧ v = m) ∧ Below w.heap.size w w'
theorem Parsed.no2 {t : TypeId} {bs : List UInt8} {w w' : World} {v : Int} (hv : 0 ≤ v ∧ v < 18446744073709551616) (h : ∀ m : Nat, m < 4294967296 → bs ≠ hexDigits m) (hb : Below w.heap.size w w') : Parsed t bs w (.returned (.tuple #[.int .u64 v, .iface t (.int .i64 2)])) w' :=
  ⟨v, _, rfl, hv, .inr (.inl rfl), fun m h0 h1 => absurd h1 (h m h0), hb⟩
theorem Parsed.no1 {t : TypeId} {bs : List UInt8} {w w' : World} {v : Int} (hv : 0 ≤ v ∧ v < 18446744073709551616) (h : ∀ m : Nat, m < 4294967296 → bs ≠ hexDigits m) (hb : Below w.heap.size w w') : Parsed t bs w (.returned (.tuple #[.int .u64 v, .iface t (.int .i64 1)])) w' :=
  ⟨v, _, rfl, hv, .inr (.inr rfl), fun m h0 h1 => absurd h1 (h m h0), hb⟩

theorem hval_take {bs : List UInt8} {k : Nat} (h : k < bs.length) : hval (bs.take (k + 1)) = 16 * hval (bs.take k) + hval1 bs[k] := by
  rw [List.take_succ_eq_append_getElem h, hval_snoc]
theorem hfold_ge : ∀ (l : List UInt8) (acc : Nat), acc ≤ l.foldl (fun a c => 16 * a + hval1 c) acc
  | [], acc => Nat.le_refl _
  | c :: r, acc => by
    have := hfold_ge r (16 * acc + hval1 c)
    simp only [List.foldl_cons]
    omega
theorem hval_take_le (bs : List UInt8) (k : Nat) : hval (bs.take k) ≤ hval bs := by
  conv => rhs; rw [← List.take_append_drop k bs]
  unfold hval
  rw [List.foldl_append]
  exact hfold_ge _ _
/-- Too great a number so far is no number's text. -/
theorem over_no {bs : List UInt8} {k : Nat} {a d : Int} (h : k < bs.length) (H : ∀ m : Nat, m < 4294967296 → bs = hexDigits m → a = (hval (bs.take k) : Int) ∧ d = (hval1 bs[k] : Int)) (ho : 4294967295 < a * 16 + d) : ∀ m : Nat, m < 4294967296 → bs ≠ hexDigits m := fun m hm e => by
  obtain ⟨h1, h2⟩ := H m hm e
  have h3 := hval_take_le bs (k + 1)
  rw [hval_take h] at h3
  have h4 : hval bs = m := by rw [e, hval_hex]
  omega

theorem next_ok {bs : List UInt8} {k : Nat} {a d : Int} (h : k < bs.length) (H : ∀ m : Nat, m < 4294967296 → bs = hexDigits m → a = (hval (bs.take k) : Int) ∧ d = (hval1 bs[k] : Int)) (_ : ¬ 4294967295 < a * 16 + d) : ∀ m : Nat, m < 4294967296 → bs = hexDigits m → a * 16 + d = (hval (bs.take (k + 1)) : Int) := fun m hm e => by
  obtain ⟨h1, h2⟩ := H m hm e
  rw [hval_take h]
  omega

set_option maxHeartbeats 8000000 in
set_option maxRecDepth 100000 in
theorem parse16_in (t : ByteArray) (hmax : t.size ≤ 1048576) (w : World) :
    Calls Tryz.prog 140 #[.string t, .int .i64 16, .int .i64 32] w (Parsed 178 t.data.toList w) := by
  by_cases hne : t.size = 0
  · have hemp : t.toList.isEmpty = true := by
      rw [ByteArray.toList_eq]
      have : t.data.toList.length = 0 := by simpa using hne
      rw [List.length_eq_zero_iff.1 this]; rfl
    have NO : Hid (∀ m : Nat, m < 4294967296 → t.data.toList ≠ hexDigits m) := Lib.hid fun m _ e => hex_ne m (by rw [← e]; exact List.length_eq_zero_iff.1 (by simpa using hne))
    clear hne
    go_enter Tryz.func140, Tryz.ntmps140
    go_wp2
    go_ret2
    exact Parsed.no2 ⟨by decide, by decide⟩ NO.out (Below.refl _ _)
  · have hemp : t.toList.isEmpty = false := by
      rw [ByteArray.toList_eq]
      have : t.data.toList ≠ [] := fun h => hne (by have := congrArg List.length h; simpa using this)
      simpa using this
    have hcv := Lib.run_convert_string_bytes (P := Tryz.prog) w 9 22 5 t (u := .string) Tryz.underlying9 Tryz.underlying22 Tryz.underlying5
    have hB : ∀ j, j < t.size → (Lib.bytesWorld w 5 t).cell? ⟨w.heap.size, j, none⟩ = some (.int .u8 (t.data.toList.getD j 0).toNat) := fun j hj => Lib.bytesWorld_cell w 5 t j hj
    have HW : Hid (Below w.heap.size w (Lib.bytesWorld w 5 t)) := Lib.hid (Lib.bytesWorld_below _ _ _)
    obtain ⟨W1, hW1⟩ : ∃ W1, W1 = Lib.bytesWorld w 5 t := ⟨_, rfl⟩
    rw [← hW1] at hcv hB HW
    clear hW1 hne
    obtain ⟨bs, hL⟩ : ∃ bs, bs = t.data.toList := ⟨_, rfl⟩
    have hLn : bs.length = t.size := by rw [hL]; simp
    rw [← hL] at hB ⊢
    clear hL
    go_enter Tryz.func140, Tryz.ntmps140
    go_wp2
    go_loop [12, 13, 101] (fun vu vn vi => ∃ (k : Nat) (a : Int), vu = .bool false ∧ vn = .int .u64 a ∧ vi = .int .i64 k ∧ k ≤ t.size ∧ 0 ≤ a ∧ a ≤ 4294967295 ∧ Hid (∀ m : Nat, m < 4294967296 → bs = hexDigits m → a = (hval (bs.take k) : Int)))
      (fun _ _ vi => t.size - (intOf vi).toNat)
    case atStart => exact ⟨0, 0, rfl, rfl, rfl, by omega, by omega, by omega, fun _ _ _ => by simp [hval]⟩
    case round =>
      obtain ⟨k, a, rfl, rfl, rfl, hk, ha0, ha1, HA⟩ := hrel
      by_cases hkn : k < t.size
      · have hc := hB k hkn
        have hget : bs.getD k 0 = bs[k]'(by omega) := by simp [List.getD, List.getElem?_eq_getElem (show k < bs.length by omega)]
        rw [hget] at hc
        obtain ⟨c, hcb⟩ : ∃ c, c = bs[k]'(by omega) := ⟨_, rfl⟩
        rw [← hcb] at hc
        have HC := Lib.hid hcb
        have hc256 : c.toNat < 256 := c.toNat_lt
        clear hB hget hcb
        by_cases hdig : 48 ≤ c.toNat ∧ c.toNat ≤ 57
        · obtain ⟨hd0, hd1⟩ := hdig
          have HD : Hid (∀ m : Nat, m < 4294967296 → bs = hexDigits m → a = (hval (bs.take k) : Int) ∧ ((c.toNat : Int) - 48) = (hval1 (bs[k]'(by omega)) : Int)) := Lib.hid fun m hm e => ⟨HA.out m hm e, by rw [← HC.out]; unfold hval1; rw [if_pos hd1]; omega⟩
          by_cases ho : 4294967295 < a * 16 + ((c.toNat : Int) - 48)
          · have NO := Lib.hid (over_no (by omega) HD.out ho)
            go_wp2
            go_ret2
            exact Parsed.no1 ⟨by decide, by decide⟩ NO.out HW.out
          · have fin := next_ok (by omega) HD.out ho
            have FIN := Lib.hid fin
            clear fin
            have ho2 : a * 16 + ((c.toNat : Int) - 48) ≤ 4294967295 := by omega
            go_wp2
            refine ⟨⟨k + 1, a * 16 + ((c.toNat : Int) - 48), rfl, (by first | rfl | (congr 1; omega)), (by first | rfl | (congr 1; omega)), by omega, by omega, by omega, FIN.out⟩, by simp [intOf]; omega⟩
        · have hv0 := bits_lo_u8 .or (c.toNat : Int) 32
          have hv1 := bits_hi_u8 .or (c.toNat : Int) 32
          have hu0 := bits_lo_u8 .or 95 32
          have hu1 := bits_hi_u8 .or 95 32
          by_cases hL : 97 ≤ bits .or .u8 (c.toNat : Int) 32 ∧ bits .or .u8 (c.toNat : Int) 32 ≤ 102
          · have HD : Hid (∀ m : Nat, m < 4294967296 → bs = hexDigits m → a = (hval (bs.take k) : Int) ∧ (bits .or .u8 (c.toNat : Int) 32 - 97 + 10) = (hval1 (bs[k]'(by omega)) : Int)) := Lib.hid fun m hm e => ⟨HA.out m hm e, by
              have hx := hex_all m (bs[k]'(by omega)) (by rw [← e]; exact List.getElem_mem _)
              rw [← HC.out] at hx ⊢
              unfold HexB at hx
              unfold hval1
              rcases hx with hx | hx
              · exact absurd hx hdig
              · rw [if_neg (by omega), or32 c hx.1 hx.2]; omega⟩
            obtain ⟨hL0, hL1⟩ := hL
            obtain ⟨x, hx⟩ : ∃ x, bits .or .u8 (c.toNat : Int) 32 = x := ⟨_, rfl⟩
            have h95 : ((c.toNat : Int) == 95) = false := by
              have : c.toNat ≠ 95 := fun h => by
                rw [h] at hL1
                exact absurd hL1 (by decide +kernel)
              simp; omega
            rw [hx] at HD hL0 hL1 hv0 hv1
            clear hu0 hu1
            by_cases ho : 4294967295 < a * 16 + (x - 97 + 10)
            · have NO := Lib.hid (over_no (by omega) HD.out ho)
              go_wp2_with (go_at_call 154; refine (Tryz.internal_strconv_lower _ _).mono ?_; rintro e w' ⟨rfl, rfl⟩)
              all_goals go_ret2
              all_goals exact Parsed.no1 ⟨by decide, by decide⟩ NO.out HW.out
            · have fin := next_ok (by omega) HD.out ho
              have FIN := Lib.hid fin
              clear fin
              have ho2 : a * 16 + (x - 97 + 10) ≤ 4294967295 := by omega
              go_wp2_with (go_at_call 154; refine (Tryz.internal_strconv_lower _ _).mono ?_; rintro e w' ⟨rfl, rfl⟩)
              all_goals refine ⟨⟨k + 1, a * 16 + (x - 97 + 10), rfl, (by first | rfl | (congr 1; omega)), (by first | rfl | (congr 1; omega)), by omega, by omega, by omega, FIN.out⟩, by simp [intOf]; omega⟩
          · have NO : Hid (∀ m : Nat, m < 4294967296 → bs ≠ hexDigits m) := Lib.hid fun m _ e => by
              have hx := hex_all m (bs[k]'(by omega)) (by rw [← e]; exact List.getElem_mem _)
              rw [← HC.out] at hx
              unfold HexB at hx
              rcases hx with hx | hx
              · exact hdig hx
              · rw [or32 c hx.1 hx.2] at hL; omega
            go_wp2_with (go_at_call 154; refine (Tryz.internal_strconv_lower _ _).mono ?_; rintro e w' ⟨rfl, rfl⟩)
            all_goals go_ret2
            all_goals exact Parsed.no2 ⟨by decide, by decide⟩ NO.out HW.out
      · have hkk : k = t.size := by omega
        subst hkk
        have hF := HA.out
        rw [List.take_of_length_le (by omega)] at hF
        have FIN : Hid (∀ m : Nat, m < 4294967296 → bs = hexDigits m → a = (m : Int)) := Lib.hid fun m hm e => by have h2 := hF m hm e; rw [e, hval_hex] at h2; exact h2
        clear hF HA
        go_wp2
        go_ret2
        exact ⟨a, .nilIface, rfl, ⟨by omega, by omega⟩, .inl rfl, fun m hm e => ⟨rfl, FIN.out m hm e⟩, HW.out⟩
end Go.Proofs.YtogdbfjagnbllaaGreatDoor

namespace Go.Proofs.YtogdbfjagnbllaaGreatDoor
open Go.ChangeShapes Go.WideShapes Go.ChangeAt Go.RowKit

abbrev tabsErr : List (String × DataW Unit) := [("math/bits.deBruijn32tab", Rows.laid_math_bits_deBruijn32tab), ("math/bits.deBruijn64tab", Rows.laid_math_bits_deBruijn64tab), ("internal/strconv.uint64pow10", Rows.laid_internal_strconv_uint64pow10), ("strconv.ErrRange", Rows.laid_strconv_ErrRange), ("strconv.ErrSyntax", Rows.laid_strconv_ErrSyntax)]
theorem gSyn : Tryz.prog.globalNamed "strconv.ErrSyntax" = some 4 := by kernel_rfl
theorem gRan : Tryz.prog.globalNamed "strconv.ErrRange" = some 5 := by kernel_rfl
theorem tSyn : (Tryz.prog.globals[4]?).map (·.type) = some 57 := by kernel_rfl
theorem tRan : (Tryz.prog.globals[5]?).map (·.type) = some 57 := by kernel_rfl

/-- A listed variable of an interface type, laid with a value, holds an interface value. -/
theorem iface_of_head {P : Program} {n nm : String} {d : DataW Unit} {r : List (String × DataW Unit)} {W : World} {g : Nat} {ti : TypeId} {ms : Array (String × TypeId)}
    (h : laidMet P ((n, .iface nm d) :: r) W) (hg : P.globalNamed n = some g) (ht : (P.globals[g]?).map (·.type) = some ti) (hi : P.underlying ti = some (.interface ms)) : ∃ t p, W.cell? ⟨g, 0, none⟩ = some (.iface t p) := by
  obtain ⟨ps, ⟨g0, t0, cs0, f0, p0, q0, hg0, ht0, hv0, hd0, _, e0⟩, _, hrows⟩ := h
  obtain rfl := Option.some.inj (hg.symm.trans hg0)
  obtain rfl := Option.some.inj (ht.symm.trans ht0)
  obtain ⟨l0⟩ := cs0
  cases f0 with
  | zero => simp [DataW.trod] at hd0
  | succ f =>
    have hc := fun i => World.var?_cell hg0 hv0 i
    rcases l0 with _ | ⟨v, _ | ⟨v2, r2⟩⟩
    · simp [DataW.trod, hi] at hd0
    · cases v
      case iface u x => exact ⟨u, x, by simpa using hc 0⟩
      all_goals simp [DataW.trod, hi] at hd0
    · simp [DataW.trod, hi] at hd0
theorem errs_of_laid {W : World} (h : laidMet Tryz.prog (tabsErr ++ []) W) : (∃ t p, W.cell? ⟨4, 0, none⟩ = some (.iface t p)) ∧ (∃ t p, W.cell? ⟨5, 0, none⟩ = some (.iface t p)) := by
  have h3 := laidMet.tail (laidMet.tail (laidMet.tail h))
  exact ⟨iface_of_head (laidMet.tail h3) gSyn tSyn Tryz.underlying57, iface_of_head h3 gRan tRan Tryz.underlying57⟩
theorem tabsErr_met (os : Os) (args : Array Value) : laidMetH Tryz.prog tabsErr ((World.doorLaid Tryz.prog 400 os).forCall (fun _ _ => 0) ⟨#[], args, []⟩).memory :=
  laidMetH_of_parts3 (fuel := 8) (laidMet_of_run' 8 (by kernel_rfl) (by kernel_rfl)) (by kernel_rfl) (by kernel_rfl)
theorem tabsErr_plain (W : World) : laidMetH Tryz.prog tabsErr W = laidMet Tryz.prog (tabsErr ++ []) W := MakeChecks.laidMetH_plain _ _ _ (by kernel_rfl)
end Go.Proofs.YtogdbfjagnbllaaGreatDoor

namespace Go.Proofs.YtogdbfjagnbllaaGreatDoor
open Go.RowKit

/-- What the calls ask of the library's two errors. -/
def Errs (w : World) : Prop := ((∃ t p, w.cell? ⟨4, 0, none⟩ = some (.iface t p)) ∧ ∃ t p, w.cell? ⟨5, 0, none⟩ = some (.iface t p)) ∧ 4 < w.heap.size ∧ 5 < w.heap.size
theorem lt_of_cell {w : World} {g : Nat} {v : Value} (h : w.cell? ⟨g, 0, none⟩ = some v) : g < w.heap.size := by
  rcases Nat.lt_or_ge g w.heap.size with hl | hl
  · exact hl
  · have e : w.heap[g]? = none := Array.getElem?_eq_none hl
    simp [World.cell?, e] at h
theorem Errs.of {w : World} (h0 : ∃ t p, w.cell? ⟨4, 0, none⟩ = some (.iface t p)) (h1 : ∃ t p, w.cell? ⟨5, 0, none⟩ = some (.iface t p)) : Errs w := by
  obtain ⟨t, p, h0⟩ := h0
  obtain ⟨t1, p1, h1⟩ := h1
  exact ⟨⟨⟨t, p, h0⟩, t1, p1, h1⟩, lt_of_cell h0, lt_of_cell h1⟩
theorem Errs.below {w w' : World} (h : Errs w) (hb : Below w.heap.size w w') : Errs w' := by
  obtain ⟨⟨⟨t, p, h0⟩, t1, p1, h1⟩, l0, l1⟩ := h
  exact .of ⟨t, p, (hb.cell (p := ⟨_, _, none⟩) l0).trans h0⟩ ⟨t1, p1, (hb.cell (p := ⟨_, _, none⟩) l1).trans h1⟩

/-- strconv.ParseUint(s, 16, 32), as far as a caller that writes what was read back asks. -/
def ParsedOut (bs : List UInt8) (w : World) (e : Ending) (w' : World) : Prop :=
  Below w.heap.size w w' ∧ ((∃ v : Int, (0 ≤ v ∧ v < 18446744073709551616) ∧ e = .returned (.tuple #[.int .u64 v, .nilIface]) ∧ (∀ m : Nat, m < 4294967296 → bs = hexDigits m → v = m)) ∨
    (∃ v t p, e = .returned (.tuple #[.int .u64 v, .iface t p]) ∧ ∀ m : Nat, m < 4294967296 → bs ≠ hexDigits m))
theorem parse16 (s : ByteArray) (hs : s.size ≤ 1048576) (w : World) (he : Errs w) :
    Calls Tryz.prog 122 #[.string s, .int .i64 16, .int .i64 32] w (ParsedOut s.data.toList w) := by
  have HC := Lib.hid (parse16_in s hs w)
  have HE := Lib.hid he
  clear he
  go_enter Tryz.func122, Tryz.ntmps122
  go_wp2_with fail
  refine HC.out.mono ?_
  rintro e w1 ⟨v, ev, rfl, hv, hev, hm, hb⟩
  have HM := Lib.hid hm
  have HV := Lib.hid hv
  clear hm hv
  rcases hev with rfl | rfl | rfl
  · go_wp2_with fail
    go_ret2
    exact ⟨hb, .inl ⟨v, HV.out, rfl, fun m h0 h1 => (HM.out m h0 h1).2⟩⟩
  · obtain ⟨t, p, hc⟩ := (HE.out.below hb).1.1
    have HT := Lib.hid (fun fn base bits => Any.strconv_toError_syntax Tryz.laysC245 fn s base bits _ w1 (by omega) hc (.inr ⟨t, p, rfl⟩))
    clear hc
    go_wp2_with fail
    refine (HT.out _ _ _).mono ?_
    rintro e w2 ⟨N, rfl, -, -, hb2⟩
    go_wp2_with fail
    go_ret2
    exact ⟨hb.trans (hb2.mono hb.size), .inr ⟨_, _, _, rfl, fun m h0 h1 => by cases (HM.out m h0 h1).1⟩⟩
  · obtain ⟨t, p, hc⟩ := (HE.out.below hb).1.2
    have HT := Lib.hid (fun fn base bits => Tryz.strconv_toError_range fn s base bits _ w1 (by omega) hc (.inr ⟨t, p, rfl⟩))
    clear hc
    go_wp2_with fail
    refine (HT.out _ _ _).mono ?_
    rintro e w2 ⟨N, rfl, -, -, hb2⟩
    go_wp2_with fail
    go_ret2
    exact ⟨hb.trans (hb2.mono hb.size), .inr ⟨_, _, _, rfl, fun m h0 h1 => by cases (HM.out m h0 h1).1⟩⟩

set_option maxRecDepth 100000 in
theorem impl_readhex (s : ByteArray) (hs : s.size ≤ 1048576) (w : World) (he : Errs w) (hd : Deb w) :
    Calls Tryz.prog 103 #[.string s] w (HexOut s.data.toList w) := by
  have HC := Lib.hid (parse16 s hs w he)
  have HD := Lib.hid hd
  clear he hd
  go_enter Tryz.func103, Tryz.ntmps103
  go_wp2_with fail
  refine HC.out.mono ?_
  rintro e w1 ⟨hb, ⟨v, hv, rfl, hm⟩ | ⟨v, t, p, rfl, no⟩⟩
  · obtain ⟨n, hn, hnb⟩ : ∃ n : Nat, IntKind.u32.wrap v = (n : Int) ∧ n < 4294967296 := ⟨(v % 4294967296).toNat, by rw [IntKind.wrap_u32]; omega, by omega⟩
    have key : ∀ m : Nat, m < 4294967296 → s.data.toList = hexDigits m → m = n := fun m h0 h1 => by
      have := hm m h0 h1
      rw [IntKind.wrap_u32] at hn
      omega
    have KEY := Lib.hid key
    have HI := Lib.hid (impl_hextext n hnb w1 (HD.out.below hb))
    clear hm hv key
    by_cases hq : hexDigits n = s.data.toList
    · have he1 : (!hexDigits n == s.toList) = false := by rw [ByteArray.toList_eq, hq]; simp
      have HQ := Lib.hid hq
      clear hq
      go_wp2_with (go_at_call 55; refine HI.out.mono ?_; rintro e w2 ⟨rfl, hb2⟩)
      go_ret2
      exact HexOut.yes hnb HQ.out.symm (hb.trans (hb2.mono hb.size))
    · have he1 : (!hexDigits n == s.toList) = true := by rw [ByteArray.toList_eq]; simpa using hq
      have HQ := Lib.hid hq
      clear hq
      go_wp2_with (go_at_call 55; refine HI.out.mono ?_; rintro e w2 ⟨rfl, hb2⟩)
      go_ret2
      exact HexOut.no (fun m h0 h => HQ.out (by rw [h, KEY.out m h0 h])) (hb.trans (hb2.mono hb.size))
  · have NO := Lib.hid no
    clear no
    go_wp2_with fail
    go_ret2
    exact HexOut.no NO.out hb

end Go.Proofs.YtogdbfjagnbllaaGreatDoor
