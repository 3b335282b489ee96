/-
  DRAFT, never built (no seat had these functions yet): the model's text of an item is the plain one.
  What the listed package-level variables give a walk: strconv's table of powers of ten.
  impl.DecText answers the number's decimal numeral, at every int.
  strconv's formatBits at base 16, no sign, not appended: the number's digits in base 16.
  impl.HexText answers the number's digits in base 16, and laws.FnExactHexText answers true, at every uint32.
  The program's text of an item is the plain one, whatever the tables of the kinds and codes hold.
-/
import Derived.Test.YtogdbfjagnbllaaGreatDoorRI2
import Derived.Test.YtogdbfjagnbllaaGreatDoorRI5
import Derived.BigQuiet
import Derived.Deep.QuietTactic
import Derived.Test.YtogdbfjagnbllaaGreatDoorRows
import Derived.Lib.LaidTab
import Derived.Lib.ItoaNum
import Derived.Stop.LaidErr
import Derived.MakeChecks
import Derived.Test.YtogdbfjagnbllaaGreatDoorShelf
import Derived.Test.YtogdbfjagnbllaaGreatDoorRI1
import Derived.Laws.BitsAllLaws
import Derived.Laws.BitsLemmas
import Derived.WalkLawsBesides
import Derived.Deep.RegionHeld3
namespace Go.Proofs.YtogdbfjagnbllaaGreatDoor
open Go.RowKit Go

theorem spec_mark (k : Int) (hk : 0 ≤ k ∧ k ≤ 9) (w : World) : Calls Tryz.prog 58 #[.int .i64 k] w fun e w' => e = .returned (.string ⟨#[markOf k]⟩) ∧ w = w' := by
  have ka : k = 0 ∨ k = 1 ∨ k = 2 ∨ k = 3 ∨ k = 4 ∨ k = 5 ∨ k = 6 ∨ k = 7 ∨ k = 8 ∨ k = 9 := by omega
  rcases ka with rfl | rfl | rfl | rfl | rfl | rfl | rfl | rfl | rfl | rfl <;>
    (go_enter Tryz.func58, Tryz.ntmps58
     go_wp2
     go_ret
     exact ⟨rfl, rfl⟩)

/-- What a text of an item answers. -/
abbrev TextEnd (l : List UInt8) (w : World) (e : Ending) (w' : World) : Prop := e = .returned (.string ⟨l.toArray⟩) ∧ Below w.heap.size w w'
abbrev OkT (k : Int) (nm : ByteArray) (n : Int) (x : Bool) (r : Int) (b : Bool) : Prop := Hid (∀ W, Calls Tryz.prog 21 #[itA k nm n x r] W fun e w' => e = .returned (.bool b) ∧ Below W.heap.size W w')
theorem str_end {a : ByteArray} {l : List UInt8} {w w' : World} (h : a.data.toList = l) (hb : Below w.heap.size w w') : TextEnd l w (.returned (.string a)) w' := ⟨by rw [← h], hb⟩

theorem st_no (k : Int) (nm : ByteArray) (n : Int) (x : Bool) (r : Int) (HO : OkT k nm n x r false) (w : World) :
    Calls Tryz.prog 40 #[itA k nm n x r] w (TextEnd [] w) := by
  go_enter Tryz.func40, Tryz.ntmps40
  go_wp2_with fail
  refine (HO.out _).mono ?_
  rintro e w1 ⟨rfl, hb1⟩
  have HX := Lib.hid (box_mono (box_start w _) (hb1.mono (by simp)))
  clear hb1
  go_wp2_with fail
  go_ret
  exact str_end rfl (box_below HX.out)

set_option maxHeartbeats 1000000 in
theorem st_word (k : Int) (hk : 1 ≤ k ∧ k ≤ 6) (nm : ByteArray) (hs : nm.size ≤ 4611686018427387904) (n : Int) (x : Bool) (r : Int) (HO : OkT k nm n x r true) (w : World) :
    Calls Tryz.prog 40 #[itA k nm n x r] w (TextEnd (markOf k :: nm.data.toList) w) := by
  have HM := Lib.hid (fun W => spec_mark k (by omega) W)
  have e7 : (k == 7) = false := by simp; omega
  have e8 : (k == 8) = false := by simp; omega
  have e9 : (k == 9) = false := by simp; omega
  have e0 : (k == 0) = false := by simp; omega
  obtain ⟨m, hm⟩ : ∃ m : ByteArray, (⟨#[markOf k]⟩ : ByteArray) = m := ⟨_, rfl⟩
  have hms : m.size = 1 := by rw [← hm]; rfl
  have HT := Lib.hid (show (m ++ nm).data.toList = markOf k :: nm.data.toList by rw [← hm]; simp)
  rw [hm] at HM
  clear hm hk
  go_enter Tryz.func40, Tryz.ntmps40
  go_wp2_with fail
  refine (HO.out _).mono ?_
  rintro e w1 ⟨rfl, hb1⟩
  have hx1 := box_mono (box_start w _) (hb1.mono (by simp))
  obtain ⟨c0, c1, c2, c3, c4⟩ := it_box hx1
  have HX := Lib.hid hx1
  clear hb1 hx1
  go_wp2_with fail
  refine (HM.out _).mono ?_
  rintro e w2 ⟨rfl, rfl⟩
  go_wp2_with fail
  go_ret
  exact str_end HT.out (box_below HX.out)

set_option maxHeartbeats 1000000 in
theorem st_raw (nm : ByteArray) (n : Int) (x : Bool) (r : Nat) (hr : r < 4294967296) (HO : OkT 0 nm n x r true) (w : World) :
    Calls Tryz.prog 40 #[itA 0 nm n x r] w (TextEnd (markOf 0 :: hexDigits r) w) := by
  have HM := Lib.hid (fun W => spec_mark 0 (by decide) W)
  obtain ⟨m, hm⟩ : ∃ m : ByteArray, (⟨#[markOf 0]⟩ : ByteArray) = m := ⟨_, rfl⟩
  have hms : m.size = 1 := by rw [← hm]; rfl
  obtain ⟨t, ht⟩ : ∃ t : ByteArray, (⟨(hexDigits r).toArray⟩ : ByteArray) = t := ⟨_, rfl⟩
  have hts : t.size ≤ 8 := by rw [← ht]; exact hex_len8 hr
  have HT := Lib.hid (show (m ++ t).data.toList = markOf 0 :: hexDigits r by rw [← hm, ← ht]; simp)
  have HH := Lib.hid (fun W => spec_hextext r hr W)
  rw [hm] at HM
  rw [ht] at HH
  clear hm ht hr
  go_enter Tryz.func40, Tryz.ntmps40
  go_wp2_with fail
  refine (HO.out _).mono ?_
  rintro e w1 ⟨rfl, hb1⟩
  have hx1 := box_mono (box_start w _) (hb1.mono (by simp))
  obtain ⟨c0, c1, c2, c3, c4⟩ := it_box hx1
  have HX := Lib.hid hx1
  clear hb1 hx1
  go_wp2_with fail
  refine (HM.out _).mono ?_
  rintro e w2 ⟨rfl, rfl⟩
  go_wp2_with fail
  refine (HH.out _).mono ?_
  rintro e w2 ⟨rfl, rfl⟩
  go_wp2_with fail
  go_ret
  exact str_end HT.out (box_below HX.out)

set_option maxHeartbeats 1000000 in
theorem st_hex7 (nm : ByteArray) (n : Int) (r : Int) (HO : OkT 7 nm n true r true) (w : World) :
    Calls Tryz.prog 40 #[itA 7 nm n true r] w (TextEnd (markOf 7 :: 36 :: hexDigits (lowN n)) w) := by
  have HM := Lib.hid (fun W => spec_mark 7 (by decide) W)
  obtain ⟨m, hm⟩ : ∃ m : ByteArray, (⟨#[markOf 7]⟩ : ByteArray) = m := ⟨_, rfl⟩
  have hms : m.size = 1 := by rw [← hm]; rfl
  obtain ⟨u, hu⟩ : ∃ u : Nat, lowN n = u := ⟨_, rfl⟩
  have hul : u < 4294967296 := by rw [← hu]; exact lowN_lt n
  have huw : IntKind.u32.wrap n = (u : Int) := by rw [← hu, IntKind.wrap_u32]; unfold lowN; omega
  obtain ⟨t, ht⟩ : ∃ t : ByteArray, (⟨(hexDigits u).toArray⟩ : ByteArray) = t := ⟨_, rfl⟩
  have hts : t.size ≤ 8 := by rw [← ht]; exact hex_len8 hul
  have HT := Lib.hid (show ((m ++ ⟨#[36]⟩) ++ t).data.toList = markOf 7 :: 36 :: hexDigits u by rw [← hm, ← ht]; simp)
  have HH := Lib.hid (fun W => spec_hextext u hul W)
  rw [hu]
  rw [hm] at HM
  rw [ht] at HH
  clear hm ht hu hul
  go_enter Tryz.func40, Tryz.ntmps40
  go_wp2_with fail
  refine (HO.out _).mono ?_
  rintro e w1 ⟨rfl, hb1⟩
  have hx1 := box_mono (box_start w _) (hb1.mono (by simp))
  obtain ⟨c0, c1, c2, c3, c4⟩ := it_box hx1
  have HX := Lib.hid hx1
  clear hb1 hx1
  go_wp2_with fail
  refine (HM.out _).mono ?_
  rintro e w2 ⟨rfl, rfl⟩
  go_wp2_with fail
  try rw [huw]
  refine (HH.out _).mono ?_
  rintro e w2 ⟨rfl, rfl⟩
  go_wp2_with fail
  go_ret
  exact str_end HT.out (box_below HX.out)

set_option maxHeartbeats 1000000 in
theorem st_dec7 (nm : ByteArray) (n : Int) (hn : -2147483648 ≤ n ∧ n ≤ 2147483647) (r : Int) (HO : OkT 7 nm n false r true) (w : World) :
    Calls Tryz.prog 40 #[itA 7 nm n false r] w (TextEnd (markOf 7 :: 35 :: Lib.itoa n) w) := by
  have HM := Lib.hid (fun W => spec_mark 7 (by decide) W)
  obtain ⟨m, hm⟩ : ∃ m : ByteArray, (⟨#[markOf 7]⟩ : ByteArray) = m := ⟨_, rfl⟩
  have hms : m.size = 1 := by rw [← hm]; rfl
  have hnw : IntKind.i64.wrap n = n := by rw [IntKind.wrap_i64]; omega
  obtain ⟨t, ht⟩ : ∃ t : ByteArray, (⟨(Lib.itoa n).toArray⟩ : ByteArray) = t := ⟨_, rfl⟩
  have hts : t.size ≤ 11 := by rw [← ht]; exact itoa_len (by omega) (by omega)
  have HT := Lib.hid (show ((m ++ ⟨#[35]⟩) ++ t).data.toList = markOf 7 :: 35 :: Lib.itoa n by rw [← hm, ← ht]; simp)
  have HH := Lib.hid (fun W => spec_dectext n (by omega) (by omega) W)
  rw [hm] at HM
  rw [ht] at HH
  clear hm ht
  go_enter Tryz.func40, Tryz.ntmps40
  go_wp2_with fail
  refine (HO.out _).mono ?_
  rintro e w1 ⟨rfl, hb1⟩
  have hx1 := box_mono (box_start w _) (hb1.mono (by simp))
  obtain ⟨c0, c1, c2, c3, c4⟩ := it_box hx1
  have HX := Lib.hid hx1
  clear hb1 hx1
  go_wp2_with fail
  refine (HM.out _).mono ?_
  rintro e w2 ⟨rfl, rfl⟩
  go_wp2_with fail
  try rw [hnw]
  refine (HH.out _).mono ?_
  rintro e w2 ⟨rfl, rfl⟩
  go_wp2_with fail
  go_ret
  exact str_end HT.out (box_below HX.out)

set_option maxHeartbeats 1000000 in
theorem st_hex8 (nm : ByteArray) (n : Int) (r : Int) (HO : OkT 8 nm n true r true) (w : World) :
    Calls Tryz.prog 40 #[itA 8 nm n true r] w (TextEnd (markOf 8 :: 36 :: hexDigits (lowN n)) w) := by
  have HM := Lib.hid (fun W => spec_mark 8 (by decide) W)
  obtain ⟨m, hm⟩ : ∃ m : ByteArray, (⟨#[markOf 8]⟩ : ByteArray) = m := ⟨_, rfl⟩
  have hms : m.size = 1 := by rw [← hm]; rfl
  obtain ⟨u, hu⟩ : ∃ u : Nat, lowN n = u := ⟨_, rfl⟩
  have hul : u < 4294967296 := by rw [← hu]; exact lowN_lt n
  have huw : IntKind.u32.wrap n = (u : Int) := by rw [← hu, IntKind.wrap_u32]; unfold lowN; omega
  obtain ⟨t, ht⟩ : ∃ t : ByteArray, (⟨(hexDigits u).toArray⟩ : ByteArray) = t := ⟨_, rfl⟩
  have hts : t.size ≤ 8 := by rw [← ht]; exact hex_len8 hul
  have HT := Lib.hid (show ((m ++ ⟨#[36]⟩) ++ t).data.toList = markOf 8 :: 36 :: hexDigits u by rw [← hm, ← ht]; simp)
  have HH := Lib.hid (fun W => spec_hextext u hul W)
  rw [hu]
  rw [hm] at HM
  rw [ht] at HH
  clear hm ht hu hul
  go_enter Tryz.func40, Tryz.ntmps40
  go_wp2_with fail
  refine (HO.out _).mono ?_
  rintro e w1 ⟨rfl, hb1⟩
  have hx1 := box_mono (box_start w _) (hb1.mono (by simp))
  obtain ⟨c0, c1, c2, c3, c4⟩ := it_box hx1
  have HX := Lib.hid hx1
  clear hb1 hx1
  go_wp2_with fail
  refine (HM.out _).mono ?_
  rintro e w2 ⟨rfl, rfl⟩
  go_wp2_with fail
  try rw [huw]
  refine (HH.out _).mono ?_
  rintro e w2 ⟨rfl, rfl⟩
  go_wp2_with fail
  go_ret
  exact str_end HT.out (box_below HX.out)

set_option maxHeartbeats 1000000 in
theorem st_dec8 (nm : ByteArray) (n : Int) (hn : -2147483648 ≤ n ∧ n ≤ 2147483647) (r : Int) (HO : OkT 8 nm n false r true) (w : World) :
    Calls Tryz.prog 40 #[itA 8 nm n false r] w (TextEnd (markOf 8 :: 35 :: Lib.itoa n) w) := by
  have HM := Lib.hid (fun W => spec_mark 8 (by decide) W)
  obtain ⟨m, hm⟩ : ∃ m : ByteArray, (⟨#[markOf 8]⟩ : ByteArray) = m := ⟨_, rfl⟩
  have hms : m.size = 1 := by rw [← hm]; rfl
  have hnw : IntKind.i64.wrap n = n := by rw [IntKind.wrap_i64]; omega
  obtain ⟨t, ht⟩ : ∃ t : ByteArray, (⟨(Lib.itoa n).toArray⟩ : ByteArray) = t := ⟨_, rfl⟩
  have hts : t.size ≤ 11 := by rw [← ht]; exact itoa_len (by omega) (by omega)
  have HT := Lib.hid (show ((m ++ ⟨#[35]⟩) ++ t).data.toList = markOf 8 :: 35 :: Lib.itoa n by rw [← hm, ← ht]; simp)
  have HH := Lib.hid (fun W => spec_dectext n (by omega) (by omega) W)
  rw [hm] at HM
  rw [ht] at HH
  clear hm ht
  go_enter Tryz.func40, Tryz.ntmps40
  go_wp2_with fail
  refine (HO.out _).mono ?_
  rintro e w1 ⟨rfl, hb1⟩
  have hx1 := box_mono (box_start w _) (hb1.mono (by simp))
  obtain ⟨c0, c1, c2, c3, c4⟩ := it_box hx1
  have HX := Lib.hid hx1
  clear hb1 hx1
  go_wp2_with fail
  refine (HM.out _).mono ?_
  rintro e w2 ⟨rfl, rfl⟩
  go_wp2_with fail
  try rw [hnw]
  refine (HH.out _).mono ?_
  rintro e w2 ⟨rfl, rfl⟩
  go_wp2_with fail
  go_ret
  exact str_end HT.out (box_below HX.out)

set_option maxHeartbeats 1000000 in
theorem st_var (nm : ByteArray) (hs : nm.size ≤ 24) (n : Int) (hn : -2147483648 ≤ n ∧ n ≤ 2147483647) (x : Bool) (r : Int) (HO : OkT 9 nm n x r true) (w : World) :
    Calls Tryz.prog 40 #[itA 9 nm n x r] w (TextEnd (markOf 9 :: (nm.data.toList ++ 35 :: Lib.itoa n)) w) := by
  have HM := Lib.hid (fun W => spec_mark 9 (by decide) W)
  obtain ⟨m, hm⟩ : ∃ m : ByteArray, (⟨#[markOf 9]⟩ : ByteArray) = m := ⟨_, rfl⟩
  have hms : m.size = 1 := by rw [← hm]; rfl
  have hnw : IntKind.i64.wrap n = n := by rw [IntKind.wrap_i64]; omega
  obtain ⟨t, ht⟩ : ∃ t : ByteArray, (⟨(Lib.itoa n).toArray⟩ : ByteArray) = t := ⟨_, rfl⟩
  have hts : t.size ≤ 11 := by rw [← ht]; exact itoa_len (by omega) (by omega)
  have HT := Lib.hid (show (((m ++ nm) ++ ⟨#[35]⟩) ++ t).data.toList = markOf 9 :: (nm.data.toList ++ 35 :: Lib.itoa n) by rw [← hm, ← ht]; simp)
  have HH := Lib.hid (fun W => spec_dectext n (by omega) (by omega) W)
  rw [hm] at HM
  rw [ht] at HH
  have s1 : (9223372036854775807 < m.size + nm.size) = False := eq_false (by omega)
  have s2 : (9223372036854775807 < m.size + nm.size + 1) = False := eq_false (by omega)
  have s3 : (9223372036854775807 < m.size + nm.size + 1 + t.size) = False := eq_false (by omega)
  clear hm ht hms
  go_enter Tryz.func40, Tryz.ntmps40
  go_wp2_with fail
  refine (HO.out _).mono ?_
  rintro e w1 ⟨rfl, hb1⟩
  have hx1 := box_mono (box_start w _) (hb1.mono (by simp))
  obtain ⟨c0, c1, c2, c3, c4⟩ := it_box hx1
  have HX := Lib.hid hx1
  clear hb1 hx1
  go_wp2_with fail
  refine (HM.out _).mono ?_
  rintro e w2 ⟨rfl, rfl⟩
  go_wp2_with fail
  go_quiet (exact Calls.quiet_of_same ((HH.out _).mono fun e w2 ⟨h1, h2⟩ => ⟨h1, h2.symm⟩))
  go_wp2_with fail
  go_ret
  exact str_end HT.out (below_drewN (box_below HX.out) _)

theorem nameL_size {nm : ByteArray} (h : nameL nm.data.toList = true) : nm.size ≤ 24 := by
  have := (of_decide_eq_true h).2.1
  simpa using this
/-- The model's text of an item is the plain one. -/
theorem spec_itemtext (it : It) (hin : ItIn it) (w : World) : Calls Tryz.prog 40 #[itVal it] w (TextEnd (textOf it) w) := by
  have HO := Lib.hid (fun W => spec_itemok it hin W)
  by_cases hc : cellsOf it = []
  · rw [text_no hc]
    rw [show decide (cellsOf it ≠ []) = false from decide_eq_false (fun h => h hc)] at HO
    exact st_no _ _ _ _ _ HO w
  · rw [text_yes hc]
    rw [show decide (cellsOf it ≠ []) = true from decide_eq_true hc] at HO
    have hf := form_of hc
    obtain ⟨k, nm, n, x, r⟩ := it
    have n1 := hin.n1
    have n2 := hin.n2
    have hr := hin.r
    simp only at n1 n2 hr
    rcases hf with ⟨h0, _⟩ | ⟨h0, _⟩ | ⟨h0, _, _, h3⟩ | ⟨h0, _, _, _, h4⟩ <;> simp only at h0
    · rw [tail_raw h0]
      subst h0
      exact st_raw nm n x r hr HO w
    · rw [tail_num h0]
      rcases h0 with rfl | rfl <;> cases x
      · exact st_dec7 nm n ⟨n1, n2⟩ _ HO w
      · exact st_hex7 nm n _ HO w
      · exact st_dec8 nm n ⟨n1, n2⟩ _ HO w
      · exact st_hex8 nm n _ HO w
    · rw [tail_var h0]
      subst h0
      exact st_var nm (nameL_size h3) n ⟨n1, n2⟩ x _ HO w
    · rw [tail_word h0]
      exact st_word k h0 nm hin.s n x _ HO w
end Go.Proofs.YtogdbfjagnbllaaGreatDoor

namespace Go.Proofs.YtogdbfjagnbllaaGreatDoor
open Go.ChangeShapes Go.WideShapes Go.ChangeAt Go.RowKit

theorem gPow : Tryz.prog.globalNamed "internal/strconv.uint64pow10" = some 2 := by kernel_rfl
theorem tPow : (Tryz.prog.globals[2]?).map (·.type) = some 173 := by kernel_rfl
theorem pow_eq : Rows.laid_internal_strconv_uint64pow10 = Lib.tabData (H := Unit) .u64 Lib.pow10Tab := by kernel_rfl
theorem cPow : Tryz.prog.cellsOf 173 = 20 := by kernel_rfl
theorem cPowE : Tryz.prog.cellsOf 110 = 1 := by kernel_rfl

abbrev tabs : List (String × DataW Unit) := [("math/bits.deBruijn32tab", Rows.laid_math_bits_deBruijn32tab), ("math/bits.deBruijn64tab", Rows.laid_math_bits_deBruijn64tab), ("internal/strconv.uint64pow10", Rows.laid_internal_strconv_uint64pow10)]

theorem pow_of_laid {W : World} {rest : List (String × DataW Unit)} (h : laidMet Tryz.prog (tabs ++ rest) W) : Lib.TabIs Tryz.prog W "internal/strconv.uint64pow10" .u64 Lib.pow10Tab := by
  have h2 := (laidMet.tail (laidMet.tail h))
  rw [pow_eq] at h2
  exact Lib.tabIs_of_head gPow tPow Tryz.underlying173 Tryz.underlying110 cPowE cPow h2
theorem tab_below {W W' : World} (h : Lib.TabIs Tryz.prog W "internal/strconv.uint64pow10" .u64 Lib.pow10Tab) (hb : Below W.heap.size W W') : Lib.TabIs Tryz.prog W' "internal/strconv.uint64pow10" .u64 Lib.pow10Tab := var?_below h hb
def debTab : List Int := [0, 1, 56, 2, 57, 49, 28, 3, 61, 58, 42, 50, 38, 29, 17, 4, 62, 47, 59, 36, 45, 43, 51, 22, 53, 39, 33, 30, 24, 18, 12, 5, 63, 55, 48, 27, 60, 41, 37, 16, 46, 35, 44, 21, 52, 32, 23, 11, 54, 26, 40, 15, 34, 20, 31, 10, 25, 14, 19, 9, 13, 8, 7, 6]
theorem gDeb : Tryz.prog.globalNamed "math/bits.deBruijn64tab" = some 7 := by kernel_rfl
theorem tDeb : (Tryz.prog.globals[7]?).map (·.type) = some 192 := by kernel_rfl
theorem deb_eq : Rows.laid_math_bits_deBruijn64tab = Lib.tabData (H := Unit) .u8 debTab := by kernel_rfl
theorem cDeb : Tryz.prog.cellsOf 192 = 64 := by kernel_rfl
theorem cDebE : Tryz.prog.cellsOf 5 = 1 := by kernel_rfl
/-- What math/bits reads of its table where it is asked for 16. -/
theorem deb_of_laid {W : World} {rest : List (String × DataW Unit)} (h : laidMet Tryz.prog (tabs ++ rest) W) : W.cell? ⟨7, 15, none⟩ = some (.int .u8 4) ∧ 7 < W.heap.size := by
  have h2 := laidMet.tail h
  rw [deb_eq] at h2
  have ht : Lib.TabIs Tryz.prog W "math/bits.deBruijn64tab" .u8 debTab := Lib.tabIs_of_head gDeb tDeb Tryz.underlying192 Tryz.underlying5 cDebE cDeb h2
  have hc : W.cell? ⟨7, 15, none⟩ = some (.int .u8 4) := ht.cell gDeb 15 (by decide)
  refine ⟨hc, ?_⟩
  rcases Nat.lt_or_ge 7 W.heap.size with hl | hl
  · exact hl
  · have e : W.heap[7]? = none := Array.getElem?_eq_none hl
    simp [World.cell?, e] at hc
/-- The door's own heap meets the condition. -/
theorem tabs_met (os : Os) (args : Array Value) : laidMetH Tryz.prog tabs ((World.doorLaid Tryz.prog 400 os).forCall (fun _ _ => 0) ⟨#[], args, []⟩).memory :=
  laidMetH_of_parts3 (fuel := 8) (laidMet_of_run' 8 (by kernel_rfl) (by kernel_rfl)) (by kernel_rfl) (by kernel_rfl)
theorem tabs_plain (W : World) : laidMetH Tryz.prog tabs W = laidMet Tryz.prog (tabs ++ []) W := MakeChecks.laidMetH_plain _ _ _ (by kernel_rfl)
end Go.Proofs.YtogdbfjagnbllaaGreatDoor

namespace Go.Proofs.YtogdbfjagnbllaaGreatDoor
open Go.RowKit

theorem impl_dectext (n : Int) (h0 : -9223372036854775808 ≤ n) (h1 : n ≤ 9223372036854775807) (w : World) (ht : Lib.TabIs Tryz.prog w "internal/strconv.uint64pow10" .u64 Lib.pow10Tab) :
    Calls Tryz.prog 56 #[.int .i64 n] w fun e w' => e = .returned (.string ⟨(Lib.itoa n).toArray⟩) ∧ Below w.heap.size w w' := by
  have HT := Lib.hid ht
  clear ht
  go_enter Tryz.func56, Tryz.ntmps56
  go_wp2_with (go_at_call 83; refine (Tryz.strconv_Itoa n h0 h1 _ HT.out).mono ?_; rintro e w' ⟨rfl, k, os, hw⟩)
  go_ret
  exact ⟨rfl, hw ▸ below_regrow w k os⟩
end Go.Proofs.YtogdbfjagnbllaaGreatDoor

namespace Go.Proofs.YtogdbfjagnbllaaGreatDoor
open Go.RowKit

theorem pow2_sixteen (w : World) : Calls Tryz.prog 148 #[.int .i64 16] w fun e w' => e = .returned (.bool true) ∧ w = w' := by
  have hb : bits .and .i64 16 15 = 0 := by kernel_rfl
  go_enter Tryz.func148, Tryz.ntmps148
  go_wp2
  go_ret
  exact ⟨rfl, rfl⟩
theorem tz64_sixteen (w : World) (ht : w.cell? ⟨7, 15, none⟩ = some (.int .u8 4)) : Calls Tryz.prog 165 #[.int .u64 16] w fun e w' => e = .returned (.int .i64 4) ∧ w = w' := by
  have hb : bits .and .u64 16 (IntKind.u64.wrap (-16)) = 16 := by kernel_rfl
  go_enter Tryz.func165, Tryz.ntmps165
  go_wp2
  go_ret
  exact ⟨rfl, rfl⟩
theorem tz_sixteen (w : World) (ht : w.cell? ⟨7, 15, none⟩ = some (.int .u8 4)) : Calls Tryz.prog 149 #[.int .u64 16] w fun e w' => e = .returned (.int .i64 4) ∧ w = w' := by
  have HC := Lib.hid (tz64_sixteen w ht)
  clear ht
  go_enter Tryz.func149, Tryz.ntmps149
  go_wp2_with (go_at_call 165; refine HC.out.mono ?_; rintro e w' ⟨rfl, rfl⟩)
  go_ret
  exact ⟨rfl, rfl⟩

/-- The library's text of digits. -/
def d36 : ByteArray := ⟨#[48, 49, 50, 51, 52, 53, 54, 55, 56, 57, 97, 98, 99, 100, 101, 102, 103, 104, 105, 106, 107, 108, 109, 110, 111, 112, 113, 114, 115, 116, 117, 118, 119, 120, 121, 122]⟩
theorem d36_fin : ∀ i : Fin 16, d36.data.toList[i.val]? = some (hdig i.val) := by decide +kernel
theorem d36_size : d36.size = 36 := by decide +kernel
theorem d36_at (i : Nat) (h : i < 16) (hl : i < d36.size) : d36[i] = hdig i := by
  have := d36_fin ⟨i, h⟩
  have hl : i < d36.data.toList.length := hl
  rw [List.getElem?_eq_getElem hl] at this
  injection this with this

def encB (c : UInt8) : Value := .int .u8 (c.toNat : Int)
/-- Where a conversion stands: v is left, t is written from place j on. -/
structure FB (w : World) (n v j : Nat) (A : Array Value) (t : List UInt8) (wr : World) : Prop where
  blk : Blk wr w.heap.size 174 A
  size : A.size = 65
  tail : A.toList.drop j = t.map encB
  len : j + t.length = 65
  digs : hexDigits v ++ t = hexDigits n
  below : Below w.heap.size w wr
theorem drop_set (A : Array Value) (m : Nat) (x : Value) (h : m < A.size) : (A.setIfInBounds m x).toList.drop m = x :: A.toList.drop (m + 1) := by
  rw [Array.toList_setIfInBounds, List.drop_set, if_neg (by omega), Nat.sub_self, List.drop_eq_getElem_cons (by simpa using h)]
  rfl
theorem FB.pos {w wr : World} {n v j : Nat} {A : Array Value} {t : List UInt8} (h : FB w n v j A t wr) (hn : (hexDigits n).length ≤ 8) : 1 ≤ j ∧ j ≤ 65 := by
  have h1 := congrArg List.length h.digs
  have h2 := h.len
  rw [List.length_append] at h1
  have h3 := List.length_pos_iff.2 (hex_ne v)
  omega
theorem FB.store {w wr : World} {n v m : Nat} {A : Array Value} {t : List UInt8} (h : FB w n v (m + 1) A t wr) (d : Nat) :
    Blk (wr.setCell ⟨w.heap.size, m, none⟩ (encB (hdig d))) w.heap.size 174 (A.setIfInBounds m (encB (hdig d))) ∧ (A.setIfInBounds m (encB (hdig d))).size = 65 ∧ (A.setIfInBounds m (encB (hdig d))).toList.drop m = (hdig d :: t).map encB ∧ m + (hdig d :: t).length = 65 ∧ Below w.heap.size w (wr.setCell ⟨w.heap.size, m, none⟩ (encB (hdig d))) := by
  have hl := h.len
  have hz := h.size
  refine ⟨h.blk.put _ _, by simpa using hz, ?_, by simp; omega, h.below.setCell (Nat.le_refl _) _⟩
  rw [drop_set _ _ _ (by omega), h.tail]
  rfl
theorem FB.step {w wr : World} {n v m : Nat} {A : Array Value} {t : List UInt8} (h : FB w n v (m + 1) A t wr) (hv : 16 ≤ v) :
    FB w n (v / 16) m (A.setIfInBounds m (encB (hdig (v % 16)))) (hdig (v % 16) :: t) (wr.setCell ⟨w.heap.size, m, none⟩ (encB (hdig (v % 16)))) := by
  have hd := h.digs
  rw [hex_big (by omega)] at hd
  have hd' : hexDigits (v / 16) ++ hdig (v % 16) :: t = hexDigits n := by simpa using hd
  obtain ⟨a, b, c, d, e⟩ := h.store (v % 16)
  exact ⟨a, b, c, d, hd', e⟩
theorem FB.cell {w wr : World} {n v m : Nat} {A : Array Value} {t : List UInt8} (h : FB w n v (m + 1) A t wr) : ∃ u, wr.cell? ⟨w.heap.size, m, none⟩ = some u ∧ wr.frozen? ⟨w.heap.size, m, none⟩ = false := by
  have hl := h.len
  have hz := h.size
  exact ⟨A[m], by rw [h.blk.cell, Array.getElem?_eq_getElem (by omega)], h.blk.frozen m⟩
theorem and15 (v : Nat) (h : v < 4294967296) : bits .and .u64 (v : Int) 15 = ((v % 16 : Nat) : Int) := by
  rw [show (15 : Int) = ((15 : Nat) : Int) from rfl, u64_and_nat v 15 (by omega) (by omega), show (15 : Nat) = 2 ^ 4 - 1 from rfl, Nat.and_two_pow_sub_one_eq_mod]

set_option maxRecDepth 100000 in
set_option maxHeartbeats 2000000 in
theorem formatbits16 (n : Nat) (h1 : n < 4294967296) (w : World) (ht : w.cell? ⟨7, 15, none⟩ = some (.int .u8 4)) (hg : 7 < w.heap.size) :
    Calls Tryz.prog 129 #[.slice none 0 0, .int .u64 n, .int .i64 16, .bool false, .bool false] w fun e w' => e = .returned (.tuple #[.slice none 0 0, .string ⟨(hexDigits n).toArray⟩]) ∧ Below w.heap.size w w' := by
  have hnl := hex_len8 h1
  have HT : ∀ o, Hid ((w.alloc o).cell? ⟨7, 15, none⟩ = some (.int .u8 4)) := fun o => Lib.hid ((World.cell?_alloc_lt w o ⟨7, 15, none⟩ hg).trans ht)
  clear ht hg
  go_enter Tryz.func129, Tryz.ntmps129
  go_wp2_with (first | (go_at_call 148; refine (pow2_sixteen _).mono ?_; rintro e w' ⟨rfl, rfl⟩) | (go_at_call 149; refine (tz_sixteen _ (HT _).out).mono ?_; rintro e w' ⟨rfl, rfl⟩))
  have HT := True.intro
  go_loopw [1, 13] (fun u i wr => ∃ (v j : Nat) (A : Array Value) (t : List UInt8), u = .int .u64 v ∧ i = .int .i64 j ∧ v ≤ n ∧ FB w n v j A t wr) (fun u _ _ => (intOf u).toNat)
  case atStart => exact ⟨n, 65, _, [], rfl, rfl, Nat.le_refl _, Blk.new _ _ _, by kernel_rfl, by simp, by simp, by simp, (Below.refl _ _).alloc (Nat.le_refl _) _⟩
  case round =>
    obtain ⟨v, j, A, t, rfl, rfl, hv, hF⟩ := hrel
    obtain ⟨m, rfl⟩ : ∃ m, j = m + 1 := ⟨j - 1, by have := hF.pos hnl; omega⟩
    have hm : m ≤ 64 := by have := hF.pos hnl; omega
    obtain ⟨u, hc, hf⟩ := hF.cell
    by_cases h16 : 16 ≤ v
    · have h16' : (16 : Int) ≤ (v : Int) := by omega
      have ha := and15 v (by omega)
      have hs := hF.step h16
      unfold encB at hs
      rw [← d36_at (v % 16) (by omega) (by rw [d36_size]; omega)] at hs
      have HS := Lib.hid hs
      clear hs hF
      go_wp2
      go_roundw
      case rel => exact ⟨v / 16, m, _, _, by go_num, rfl, by omega, HS.out⟩
      case measure => simp [intOf]; omega
    · have h16' : (v : Int) < 16 := by omega
      have hb : v < d36.size := by rw [d36_size]; omega
      obtain ⟨s1, s2, s3, s4, s5⟩ := hF.store v
      have hd := hF.digs
      rw [hex_small (by omega)] at hd
      have hl1 : hdig v :: t = hexDigits n := hd
      rw [hl1] at s3 s4
      have hval : encB (hdig v) = .int .u8 ((d36[v].toNat : Nat) : Int) := by rw [d36_at v (by omega) hb]; rfl
      rw [hval] at s1 s5 s3 s2
      have hsl : ∀ W, (Instr.sliceAt 174 (.pointer (some ⟨w.heap.size, 0, none⟩)) (some (.int .i64 (m : Int))) none none).run Tryz.prog W = .ok (.slice (some ⟨w.heap.size, m, none⟩) (hexDigits n).length (65 - m)) W := fun W => by
        have hal : Tryz.prog.arrayLen 174 = 65 := by kernel_rfl
        rw [run_sliceAt_array_l W 174 ⟨w.heap.size, 0, none⟩ (by kernel_rfl) .i64 (m : Int) (by omega) (by rw [hal]; omega), hal]
        go_simp
        omega
      have hcv := run_convert_bytes_back (P := Tryz.prog) (wr.setCell ⟨w.heap.size, m, none⟩ (.int .u8 ((d36[v].toNat : Nat) : Int))) 22 9 5 ⟨w.heap.size, m, none⟩ (65 - m) (hexDigits n) Tryz.underlying22 Tryz.underlying5 Tryz.underlying9 (fun j hj => by
        have e : (⟨w.heap.size, m, none⟩ : Addr).add j = ⟨w.heap.size, m + j, none⟩ := by unfold Addr.add; split <;> simp_all
        rw [e, s1.cell]
        have h1 := congrArg (·[j]?) s3
        simp only [List.getElem?_drop, List.getElem?_map, List.getElem?_eq_getElem hj, Option.map_some, Array.getElem?_toList] at h1
        exact h1)
      have S5 := Lib.hid s5
      clear s1 s2 s3 s4 s5 hd hl1 hval hF
      go_wp2
      change Oper.upon _ _ _ _ _ (Result.andThen (Sem.run _ _ (wr.setCell _ (.int .u8 ((d36[v].toNat : Nat) : Int)))) _)
      rw [hcv]
      go_wp2
      go_ret2
      exact ⟨rfl, S5.out⟩
end Go.Proofs.YtogdbfjagnbllaaGreatDoor

namespace Go.Proofs.YtogdbfjagnbllaaGreatDoor
open Go.RowKit

/-- What the calls ask of the table. -/
def Deb (w : World) : Prop := w.cell? ⟨7, 15, none⟩ = some (.int .u8 4) ∧ 7 < w.heap.size
theorem Deb.below {w w' : World} (h : Deb w) (hb : Below w.heap.size w w') : Deb w' := ⟨(hb.cell (p := ⟨_, _, none⟩) h.2).trans h.1, by have := hb.size; have := h.2; omega⟩

theorem formatuint16_in (n : Nat) (h1 : n < 4294967296) (w : World) (hd : Deb w) :
    Calls Tryz.prog 109 #[.int .u64 n, .int .i64 16] w fun e w' => e = .returned (.string ⟨(hexDigits n).toArray⟩) ∧ Below w.heap.size w w' := by
  have HC := Lib.hid (formatbits16 n h1 w hd.1 hd.2)
  clear hd
  go_enter Tryz.func109, Tryz.ntmps109
  go_wp2_with (go_at_call 129; refine HC.out.mono ?_; rintro e w' ⟨rfl, hb⟩)
  go_ret
  exact ⟨rfl, hb⟩
theorem formatuint16 (n : Nat) (h1 : n < 4294967296) (w : World) (hd : Deb w) :
    Calls Tryz.prog 82 #[.int .u64 n, .int .i64 16] w fun e w' => e = .returned (.string ⟨(hexDigits n).toArray⟩) ∧ Below w.heap.size w w' := by
  have HC := Lib.hid (formatuint16_in n h1 w hd)
  clear hd
  go_enter Tryz.func82, Tryz.ntmps82
  go_wp2_with (go_at_call 109; refine HC.out.mono ?_; rintro e w' ⟨rfl, hb⟩)
  go_ret
  exact ⟨rfl, hb⟩
theorem impl_hextext (n : Nat) (h1 : n < 4294967296) (w : World) (hd : Deb w) :
    Calls Tryz.prog 55 #[.int .u32 n] w fun e w' => e = .returned (.string ⟨(hexDigits n).toArray⟩) ∧ Below w.heap.size w w' := by
  have HC := Lib.hid (formatuint16 n h1 w hd)
  clear hd
  go_enter Tryz.func55, Tryz.ntmps55
  go_wp2_with (go_at_call 82; refine HC.out.mono ?_; rintro e w' ⟨rfl, hb⟩)
  go_ret
  exact ⟨rfl, hb⟩
end Go.Proofs.YtogdbfjagnbllaaGreatDoor

namespace Go.Proofs.YtogdbfjagnbllaaGreatDoor
open Go.RowKit Go

/-- What the program's text of an item asks of memory. -/
abbrev PowT (w : World) : Prop := Lib.TabIs Tryz.prog w "internal/strconv.uint64pow10" .u64 Lib.pow10Tab
structure TextIn (w : World) : Prop where
  tabs : TabsAny w
  pow : PowT w
  deb : Deb w
theorem TextIn.below {w w' : World} (h : TextIn w) (hb : Below w.heap.size w w') : TextIn w' := ⟨h.tabs.below hb, tab_below h.pow hb, h.deb.below hb⟩
abbrev OkP (k : Int) (nm : ByteArray) (n : Int) (x : Bool) (r : Int) (b : Bool) : Prop := Hid (∀ W, TabsAny W → Calls Tryz.prog 52 #[itA k nm n x r] W fun e w' => e = .returned (.bool b) ∧ Below W.heap.size W w')
theorem box_more {w w1 w2 : World} {o : Obj} (h1 : Below (w.heap.size + 1) (w.alloc o) w1) (h2 : Below w1.heap.size w1 w2) : Below (w.heap.size + 1) (w.alloc o) w2 := box_mono h1 h2
theorem text_alloc {w : World} (h : TextIn w) (o : Obj) : TextIn (w.alloc o) := h.below ((Below.refl _ _).alloc (Nat.le_refl _) _)
theorem text_later {w w1 : World} {o : Obj} (h : TextIn w) (hb : Below (w.heap.size + 1) (w.alloc o) w1) : TextIn w1 := (text_alloc h o).below (hb.mono (by simp))

theorem it_no (k : Int) (nm : ByteArray) (n : Int) (x : Bool) (r : Int) (HO : OkP k nm n x r false) (w : World) (ht : TextIn w) :
    Calls Tryz.prog 20 #[itA k nm n x r] w (TextEnd [] w) := by
  have HI := Lib.hid (fun o => text_alloc ht o)
  clear ht
  go_enter Tryz.func20, Tryz.ntmps20
  go_wp2_with fail
  refine (HO.out _ ?_).mono ?_
  · exact (HI.out _).tabs
  rintro e w1 ⟨rfl, hb1⟩
  have HX := Lib.hid (box_mono (box_start w _) (hb1.mono (by simp)))
  clear hb1
  go_wp2_with fail
  go_ret
  exact str_end rfl (box_below HX.out)

set_option maxHeartbeats 1000000 in
theorem it_word1 (nm : ByteArray) (hs : nm.size ≤ 4611686018427387904) (n : Int) (x : Bool) (r : Int) (HO : OkP 1 nm n x r true) (w : World) (ht : TextIn w) :
    Calls Tryz.prog 20 #[itA 1 nm n x r] w (TextEnd (markOf 1 :: nm.data.toList) w) := by
  have HI := Lib.hid (fun o => text_alloc ht o)
  have HW : Hid (∀ W, Calls Tryz.prog 53 #[.int .i64 1] W fun e w' => e = .returned (.bool true) ∧ W = w') := Lib.hid (fun W => (show wordK 1 = true by decide) ▸ isword_any 1 W)
  obtain ⟨m, hm⟩ : ∃ m : ByteArray, (⟨#[markOf 1]⟩ : ByteArray) = m := ⟨_, rfl⟩
  have hE : Utf8.encode (((⟨#[37, 126, 58, 61, 34, 94, 95, 126, 61, 38]⟩ : ByteArray)[1]'(by decide)).toNat : Int) = m := by rw [← hm]; decide +kernel
  have hms : m.size = 1 := by rw [← hm]; rfl
  have HT := Lib.hid (show (m ++ nm).data.toList = markOf 1 :: nm.data.toList by rw [← hm]; simp)
  clear ht hm
  go_enter Tryz.func20, Tryz.ntmps20
  go_wp2_with fail
  refine (HO.out _ ?_).mono ?_
  · exact (HI.out _).tabs
  rintro e w1 ⟨rfl, hb1⟩
  have hx1 := box_mono (box_start w _) (hb1.mono (by simp))
  obtain ⟨c0, c1, c2, c3, c4⟩ := it_box hx1
  have HX := Lib.hid hx1
  clear hb1 hx1
  go_wp2_with fail
  refine (HW.out _).mono ?_
  rintro e w2 ⟨rfl, rfl⟩
  go_wp2_with fail
  go_ret
  exact str_end HT.out (box_below HX.out)

set_option maxHeartbeats 1000000 in
theorem it_word2 (nm : ByteArray) (hs : nm.size ≤ 4611686018427387904) (n : Int) (x : Bool) (r : Int) (HO : OkP 2 nm n x r true) (w : World) (ht : TextIn w) :
    Calls Tryz.prog 20 #[itA 2 nm n x r] w (TextEnd (markOf 2 :: nm.data.toList) w) := by
  have HI := Lib.hid (fun o => text_alloc ht o)
  have HW : Hid (∀ W, Calls Tryz.prog 53 #[.int .i64 2] W fun e w' => e = .returned (.bool true) ∧ W = w') := Lib.hid (fun W => (show wordK 2 = true by decide) ▸ isword_any 2 W)
  obtain ⟨m, hm⟩ : ∃ m : ByteArray, (⟨#[markOf 2]⟩ : ByteArray) = m := ⟨_, rfl⟩
  have hE : Utf8.encode (((⟨#[37, 126, 58, 61, 34, 94, 95, 126, 61, 38]⟩ : ByteArray)[2]'(by decide)).toNat : Int) = m := by rw [← hm]; decide +kernel
  have hms : m.size = 1 := by rw [← hm]; rfl
  have HT := Lib.hid (show (m ++ nm).data.toList = markOf 2 :: nm.data.toList by rw [← hm]; simp)
  clear ht hm
  go_enter Tryz.func20, Tryz.ntmps20
  go_wp2_with fail
  refine (HO.out _ ?_).mono ?_
  · exact (HI.out _).tabs
  rintro e w1 ⟨rfl, hb1⟩
  have hx1 := box_mono (box_start w _) (hb1.mono (by simp))
  obtain ⟨c0, c1, c2, c3, c4⟩ := it_box hx1
  have HX := Lib.hid hx1
  clear hb1 hx1
  go_wp2_with fail
  refine (HW.out _).mono ?_
  rintro e w2 ⟨rfl, rfl⟩
  go_wp2_with fail
  go_ret
  exact str_end HT.out (box_below HX.out)

set_option maxHeartbeats 1000000 in
theorem it_word3 (nm : ByteArray) (hs : nm.size ≤ 4611686018427387904) (n : Int) (x : Bool) (r : Int) (HO : OkP 3 nm n x r true) (w : World) (ht : TextIn w) :
    Calls Tryz.prog 20 #[itA 3 nm n x r] w (TextEnd (markOf 3 :: nm.data.toList) w) := by
  have HI := Lib.hid (fun o => text_alloc ht o)
  have HW : Hid (∀ W, Calls Tryz.prog 53 #[.int .i64 3] W fun e w' => e = .returned (.bool true) ∧ W = w') := Lib.hid (fun W => (show wordK 3 = true by decide) ▸ isword_any 3 W)
  obtain ⟨m, hm⟩ : ∃ m : ByteArray, (⟨#[markOf 3]⟩ : ByteArray) = m := ⟨_, rfl⟩
  have hE : Utf8.encode (((⟨#[37, 126, 58, 61, 34, 94, 95, 126, 61, 38]⟩ : ByteArray)[3]'(by decide)).toNat : Int) = m := by rw [← hm]; decide +kernel
  have hms : m.size = 1 := by rw [← hm]; rfl
  have HT := Lib.hid (show (m ++ nm).data.toList = markOf 3 :: nm.data.toList by rw [← hm]; simp)
  clear ht hm
  go_enter Tryz.func20, Tryz.ntmps20
  go_wp2_with fail
  refine (HO.out _ ?_).mono ?_
  · exact (HI.out _).tabs
  rintro e w1 ⟨rfl, hb1⟩
  have hx1 := box_mono (box_start w _) (hb1.mono (by simp))
  obtain ⟨c0, c1, c2, c3, c4⟩ := it_box hx1
  have HX := Lib.hid hx1
  clear hb1 hx1
  go_wp2_with fail
  refine (HW.out _).mono ?_
  rintro e w2 ⟨rfl, rfl⟩
  go_wp2_with fail
  go_ret
  exact str_end HT.out (box_below HX.out)

set_option maxHeartbeats 1000000 in
theorem it_word4 (nm : ByteArray) (hs : nm.size ≤ 4611686018427387904) (n : Int) (x : Bool) (r : Int) (HO : OkP 4 nm n x r true) (w : World) (ht : TextIn w) :
    Calls Tryz.prog 20 #[itA 4 nm n x r] w (TextEnd (markOf 4 :: nm.data.toList) w) := by
  have HI := Lib.hid (fun o => text_alloc ht o)
  have HW : Hid (∀ W, Calls Tryz.prog 53 #[.int .i64 4] W fun e w' => e = .returned (.bool true) ∧ W = w') := Lib.hid (fun W => (show wordK 4 = true by decide) ▸ isword_any 4 W)
  obtain ⟨m, hm⟩ : ∃ m : ByteArray, (⟨#[markOf 4]⟩ : ByteArray) = m := ⟨_, rfl⟩
  have hE : Utf8.encode (((⟨#[37, 126, 58, 61, 34, 94, 95, 126, 61, 38]⟩ : ByteArray)[4]'(by decide)).toNat : Int) = m := by rw [← hm]; decide +kernel
  have hms : m.size = 1 := by rw [← hm]; rfl
  have HT := Lib.hid (show (m ++ nm).data.toList = markOf 4 :: nm.data.toList by rw [← hm]; simp)
  clear ht hm
  go_enter Tryz.func20, Tryz.ntmps20
  go_wp2_with fail
  refine (HO.out _ ?_).mono ?_
  · exact (HI.out _).tabs
  rintro e w1 ⟨rfl, hb1⟩
  have hx1 := box_mono (box_start w _) (hb1.mono (by simp))
  obtain ⟨c0, c1, c2, c3, c4⟩ := it_box hx1
  have HX := Lib.hid hx1
  clear hb1 hx1
  go_wp2_with fail
  refine (HW.out _).mono ?_
  rintro e w2 ⟨rfl, rfl⟩
  go_wp2_with fail
  go_ret
  exact str_end HT.out (box_below HX.out)

set_option maxHeartbeats 1000000 in
theorem it_word5 (nm : ByteArray) (hs : nm.size ≤ 4611686018427387904) (n : Int) (x : Bool) (r : Int) (HO : OkP 5 nm n x r true) (w : World) (ht : TextIn w) :
    Calls Tryz.prog 20 #[itA 5 nm n x r] w (TextEnd (markOf 5 :: nm.data.toList) w) := by
  have HI := Lib.hid (fun o => text_alloc ht o)
  have HW : Hid (∀ W, Calls Tryz.prog 53 #[.int .i64 5] W fun e w' => e = .returned (.bool true) ∧ W = w') := Lib.hid (fun W => (show wordK 5 = true by decide) ▸ isword_any 5 W)
  obtain ⟨m, hm⟩ : ∃ m : ByteArray, (⟨#[markOf 5]⟩ : ByteArray) = m := ⟨_, rfl⟩
  have hE : Utf8.encode (((⟨#[37, 126, 58, 61, 34, 94, 95, 126, 61, 38]⟩ : ByteArray)[5]'(by decide)).toNat : Int) = m := by rw [← hm]; decide +kernel
  have hms : m.size = 1 := by rw [← hm]; rfl
  have HT := Lib.hid (show (m ++ nm).data.toList = markOf 5 :: nm.data.toList by rw [← hm]; simp)
  clear ht hm
  go_enter Tryz.func20, Tryz.ntmps20
  go_wp2_with fail
  refine (HO.out _ ?_).mono ?_
  · exact (HI.out _).tabs
  rintro e w1 ⟨rfl, hb1⟩
  have hx1 := box_mono (box_start w _) (hb1.mono (by simp))
  obtain ⟨c0, c1, c2, c3, c4⟩ := it_box hx1
  have HX := Lib.hid hx1
  clear hb1 hx1
  go_wp2_with fail
  refine (HW.out _).mono ?_
  rintro e w2 ⟨rfl, rfl⟩
  go_wp2_with fail
  go_ret
  exact str_end HT.out (box_below HX.out)

set_option maxHeartbeats 1000000 in
theorem it_word6 (nm : ByteArray) (hs : nm.size ≤ 4611686018427387904) (n : Int) (x : Bool) (r : Int) (HO : OkP 6 nm n x r true) (w : World) (ht : TextIn w) :
    Calls Tryz.prog 20 #[itA 6 nm n x r] w (TextEnd (markOf 6 :: nm.data.toList) w) := by
  have HI := Lib.hid (fun o => text_alloc ht o)
  have HW : Hid (∀ W, Calls Tryz.prog 53 #[.int .i64 6] W fun e w' => e = .returned (.bool true) ∧ W = w') := Lib.hid (fun W => (show wordK 6 = true by decide) ▸ isword_any 6 W)
  obtain ⟨m, hm⟩ : ∃ m : ByteArray, (⟨#[markOf 6]⟩ : ByteArray) = m := ⟨_, rfl⟩
  have hE : Utf8.encode (((⟨#[37, 126, 58, 61, 34, 94, 95, 126, 61, 38]⟩ : ByteArray)[6]'(by decide)).toNat : Int) = m := by rw [← hm]; decide +kernel
  have hms : m.size = 1 := by rw [← hm]; rfl
  have HT := Lib.hid (show (m ++ nm).data.toList = markOf 6 :: nm.data.toList by rw [← hm]; simp)
  clear ht hm
  go_enter Tryz.func20, Tryz.ntmps20
  go_wp2_with fail
  refine (HO.out _ ?_).mono ?_
  · exact (HI.out _).tabs
  rintro e w1 ⟨rfl, hb1⟩
  have hx1 := box_mono (box_start w _) (hb1.mono (by simp))
  obtain ⟨c0, c1, c2, c3, c4⟩ := it_box hx1
  have HX := Lib.hid hx1
  clear hb1 hx1
  go_wp2_with fail
  refine (HW.out _).mono ?_
  rintro e w2 ⟨rfl, rfl⟩
  go_wp2_with fail
  go_ret
  exact str_end HT.out (box_below HX.out)

set_option maxRecDepth 100000 in
set_option maxHeartbeats 2000000 in
theorem it_raw (nm : ByteArray) (n : Int) (x : Bool) (r : Nat) (hr : r < 4294967296) (HO : OkP 0 nm n x r true) (w : World) (ht : TextIn w) :
    Calls Tryz.prog 20 #[itA 0 nm n x r] w (TextEnd (markOf 0 :: hexDigits r) w) := by
  have HI := Lib.hid (fun o => text_alloc ht o)
  have HL : Hid (∀ (o : Obj) (W : World), Below (w.heap.size + 1) (w.alloc o) W → TextIn W) := Lib.hid fun o W hb => text_later ht hb
  have HW : Hid (∀ W, Calls Tryz.prog 53 #[.int .i64 0] W fun e w' => e = .returned (.bool false) ∧ W = w') := Lib.hid (fun W => (show wordK 0 = false by decide) ▸ isword_any 0 W)
  have HN : Hid (∀ W, Calls Tryz.prog 54 #[.int .i64 0] W fun e w' => e = .returned (.bool false) ∧ W = w') := Lib.hid (fun W => (show numK 0 = false by decide) ▸ isnumber_any 0 W)
  obtain ⟨m, hm⟩ : ∃ m : ByteArray, (⟨#[markOf 0]⟩ : ByteArray) = m := ⟨_, rfl⟩
  have hE : Utf8.encode (((⟨#[37, 126, 58, 61, 34, 94, 95, 126, 61, 38]⟩ : ByteArray)[0]'(by decide)).toNat : Int) = m := by rw [← hm]; decide +kernel
  have hms : m.size = 1 := by rw [← hm]; rfl
  obtain ⟨t, ht2⟩ : ∃ t : ByteArray, (⟨(hexDigits r).toArray⟩ : ByteArray) = t := ⟨_, rfl⟩
  have hts : t.size ≤ 11 := by rw [← ht2]; exact Nat.le_trans (hex_len8 hr) (by decide)
  have HT := Lib.hid (show (m ++ t).data.toList = markOf 0 :: hexDigits r by rw [← hm, ← ht2]; simp)
  have HH : Hid (∀ W, Deb W → Calls Tryz.prog 55 #[.int .u32 r] W fun e w' => e = .returned (.string t) ∧ Below W.heap.size W w') := Lib.hid fun W hd => by rw [← ht2]; exact impl_hextext r hr W hd
  clear ht2 hr
  clear ht hm
  go_enter Tryz.func20, Tryz.ntmps20
  go_wp2_with fail
  refine (HO.out _ ?_).mono ?_
  · exact (HI.out _).tabs
  rintro e w1 ⟨rfl, hb1⟩
  have hx1 := box_mono (box_start w _) (hb1.mono (by simp))
  obtain ⟨c0, c1, c2, c3, c4⟩ := it_box hx1
  have HX := Lib.hid hx1
  clear hb1 hx1
  go_wp2_with fail
  refine (HW.out _).mono ?_
  rintro e w2 ⟨rfl, rfl⟩
  go_wp2_with fail
  refine (HN.out _).mono ?_
  rintro e w2 ⟨rfl, rfl⟩
  go_wp2_with fail
  refine (HN.out _).mono ?_
  rintro e w2 ⟨rfl, rfl⟩
  go_wp2_with fail
  refine (HH.out _ ?_).mono ?_
  · exact (HL.out _ _ HX.out).deb
  rintro e w2 ⟨rfl, hb2⟩
  have HX2 := Lib.hid (box_mono HX.out hb2)
  clear hb2
  go_wp2_with fail
  go_ret
  exact str_end HT.out (box_below HX2.out)

set_option maxRecDepth 100000 in
set_option maxHeartbeats 2000000 in
theorem it_hex7 (nm : ByteArray) (n : Int) (r : Int) (HO : OkP 7 nm n true r true) (w : World) (ht : TextIn w) :
    Calls Tryz.prog 20 #[itA 7 nm n true r] w (TextEnd (markOf 7 :: 36 :: hexDigits (lowN n)) w) := by
  have HI := Lib.hid (fun o => text_alloc ht o)
  have HL : Hid (∀ (o : Obj) (W : World), Below (w.heap.size + 1) (w.alloc o) W → TextIn W) := Lib.hid fun o W hb => text_later ht hb
  have HW : Hid (∀ W, Calls Tryz.prog 53 #[.int .i64 7] W fun e w' => e = .returned (.bool false) ∧ W = w') := Lib.hid (fun W => (show wordK 7 = false by decide) ▸ isword_any 7 W)
  have HN : Hid (∀ W, Calls Tryz.prog 54 #[.int .i64 7] W fun e w' => e = .returned (.bool true) ∧ W = w') := Lib.hid (fun W => (show numK 7 = true by decide) ▸ isnumber_any 7 W)
  obtain ⟨m, hm⟩ : ∃ m : ByteArray, (⟨#[markOf 7]⟩ : ByteArray) = m := ⟨_, rfl⟩
  have hE : Utf8.encode (((⟨#[37, 126, 58, 61, 34, 94, 95, 126, 61, 38]⟩ : ByteArray)[7]'(by decide)).toNat : Int) = m := by rw [← hm]; decide +kernel
  have hms : m.size = 1 := by rw [← hm]; rfl
  obtain ⟨u, hu⟩ : ∃ u : Nat, lowN n = u := ⟨_, rfl⟩
  have hul : u < 4294967296 := by rw [← hu]; exact lowN_lt n
  have huw : IntKind.u32.wrap n = (u : Int) := by rw [← hu, IntKind.wrap_u32]; unfold lowN; omega
  rw [hu]
  obtain ⟨t, ht2⟩ : ∃ t : ByteArray, (⟨(hexDigits u).toArray⟩ : ByteArray) = t := ⟨_, rfl⟩
  have hts : t.size ≤ 11 := by rw [← ht2]; exact Nat.le_trans (hex_len8 hul) (by decide)
  have HT := Lib.hid (show ((m ++ ⟨#[36]⟩) ++ t).data.toList = markOf 7 :: 36 :: hexDigits u by rw [← hm, ← ht2]; simp)
  have HH : Hid (∀ W, Deb W → Calls Tryz.prog 55 #[.int .u32 u] W fun e w' => e = .returned (.string t) ∧ Below W.heap.size W w') := Lib.hid fun W hd => by rw [← ht2]; exact impl_hextext u hul W hd
  clear ht2 hu hul
  clear ht hm
  go_enter Tryz.func20, Tryz.ntmps20
  go_wp2_with fail
  refine (HO.out _ ?_).mono ?_
  · exact (HI.out _).tabs
  rintro e w1 ⟨rfl, hb1⟩
  have hx1 := box_mono (box_start w _) (hb1.mono (by simp))
  obtain ⟨c0, c1, c2, c3, c4⟩ := it_box hx1
  have HX := Lib.hid hx1
  clear hb1 hx1
  go_wp2_with fail
  refine (HW.out _).mono ?_
  rintro e w2 ⟨rfl, rfl⟩
  go_wp2_with fail
  refine (HN.out _).mono ?_
  rintro e w2 ⟨rfl, rfl⟩
  go_wp2_with fail
  refine (HH.out _ ?_).mono ?_
  · exact (HL.out _ _ HX.out).deb
  rintro e w2 ⟨rfl, hb2⟩
  have HX2 := Lib.hid (box_mono HX.out hb2)
  clear hb2
  go_wp2_with fail
  go_ret
  exact str_end HT.out (box_below HX2.out)

set_option maxRecDepth 100000 in
set_option maxHeartbeats 2000000 in
theorem it_dec7 (nm : ByteArray) (n : Int) (hn : -2147483648 ≤ n ∧ n ≤ 2147483647) (r : Int) (HO : OkP 7 nm n false r true) (w : World) (ht : TextIn w) :
    Calls Tryz.prog 20 #[itA 7 nm n false r] w (TextEnd (markOf 7 :: 35 :: Lib.itoa n) w) := by
  have HI := Lib.hid (fun o => text_alloc ht o)
  have HL : Hid (∀ (o : Obj) (W : World), Below (w.heap.size + 1) (w.alloc o) W → TextIn W) := Lib.hid fun o W hb => text_later ht hb
  have HW : Hid (∀ W, Calls Tryz.prog 53 #[.int .i64 7] W fun e w' => e = .returned (.bool false) ∧ W = w') := Lib.hid (fun W => (show wordK 7 = false by decide) ▸ isword_any 7 W)
  have HN : Hid (∀ W, Calls Tryz.prog 54 #[.int .i64 7] W fun e w' => e = .returned (.bool true) ∧ W = w') := Lib.hid (fun W => (show numK 7 = true by decide) ▸ isnumber_any 7 W)
  obtain ⟨m, hm⟩ : ∃ m : ByteArray, (⟨#[markOf 7]⟩ : ByteArray) = m := ⟨_, rfl⟩
  have hE : Utf8.encode (((⟨#[37, 126, 58, 61, 34, 94, 95, 126, 61, 38]⟩ : ByteArray)[7]'(by decide)).toNat : Int) = m := by rw [← hm]; decide +kernel
  have hms : m.size = 1 := by rw [← hm]; rfl
  have hnw : IntKind.i64.wrap n = n := by rw [IntKind.wrap_i64]; omega
  obtain ⟨t, ht2⟩ : ∃ t : ByteArray, (⟨(Lib.itoa n).toArray⟩ : ByteArray) = t := ⟨_, rfl⟩
  have hts : t.size ≤ 11 := by rw [← ht2]; exact itoa_len (by omega) (by omega)
  have HT := Lib.hid (show ((m ++ ⟨#[35]⟩) ++ t).data.toList = markOf 7 :: 35 :: Lib.itoa n by rw [← hm, ← ht2]; simp)
  have HH : Hid (∀ W, PowT W → Calls Tryz.prog 56 #[.int .i64 n] W fun e w' => e = .returned (.string t) ∧ Below W.heap.size W w') := Lib.hid fun W hd => by rw [← ht2]; exact impl_dectext n (by omega) (by omega) W hd
  clear ht2
  clear ht hm
  go_enter Tryz.func20, Tryz.ntmps20
  go_wp2_with fail
  refine (HO.out _ ?_).mono ?_
  · exact (HI.out _).tabs
  rintro e w1 ⟨rfl, hb1⟩
  have hx1 := box_mono (box_start w _) (hb1.mono (by simp))
  obtain ⟨c0, c1, c2, c3, c4⟩ := it_box hx1
  have HX := Lib.hid hx1
  clear hb1 hx1
  go_wp2_with fail
  refine (HW.out _).mono ?_
  rintro e w2 ⟨rfl, rfl⟩
  go_wp2_with fail
  refine (HN.out _).mono ?_
  rintro e w2 ⟨rfl, rfl⟩
  go_wp2_with fail
  refine (HN.out _).mono ?_
  rintro e w2 ⟨rfl, rfl⟩
  go_wp2_with fail
  refine (HH.out _ ?_).mono ?_
  · exact (HL.out _ _ HX.out).pow
  rintro e w2 ⟨rfl, hb2⟩
  have HX2 := Lib.hid (box_mono HX.out hb2)
  clear hb2
  go_wp2_with fail
  go_ret
  exact str_end HT.out (box_below HX2.out)

set_option maxRecDepth 100000 in
set_option maxHeartbeats 2000000 in
theorem it_hex8 (nm : ByteArray) (n : Int) (r : Int) (HO : OkP 8 nm n true r true) (w : World) (ht : TextIn w) :
    Calls Tryz.prog 20 #[itA 8 nm n true r] w (TextEnd (markOf 8 :: 36 :: hexDigits (lowN n)) w) := by
  have HI := Lib.hid (fun o => text_alloc ht o)
  have HL : Hid (∀ (o : Obj) (W : World), Below (w.heap.size + 1) (w.alloc o) W → TextIn W) := Lib.hid fun o W hb => text_later ht hb
  have HW : Hid (∀ W, Calls Tryz.prog 53 #[.int .i64 8] W fun e w' => e = .returned (.bool false) ∧ W = w') := Lib.hid (fun W => (show wordK 8 = false by decide) ▸ isword_any 8 W)
  have HN : Hid (∀ W, Calls Tryz.prog 54 #[.int .i64 8] W fun e w' => e = .returned (.bool true) ∧ W = w') := Lib.hid (fun W => (show numK 8 = true by decide) ▸ isnumber_any 8 W)
  obtain ⟨m, hm⟩ : ∃ m : ByteArray, (⟨#[markOf 8]⟩ : ByteArray) = m := ⟨_, rfl⟩
  have hE : Utf8.encode (((⟨#[37, 126, 58, 61, 34, 94, 95, 126, 61, 38]⟩ : ByteArray)[8]'(by decide)).toNat : Int) = m := by rw [← hm]; decide +kernel
  have hms : m.size = 1 := by rw [← hm]; rfl
  obtain ⟨u, hu⟩ : ∃ u : Nat, lowN n = u := ⟨_, rfl⟩
  have hul : u < 4294967296 := by rw [← hu]; exact lowN_lt n
  have huw : IntKind.u32.wrap n = (u : Int) := by rw [← hu, IntKind.wrap_u32]; unfold lowN; omega
  rw [hu]
  obtain ⟨t, ht2⟩ : ∃ t : ByteArray, (⟨(hexDigits u).toArray⟩ : ByteArray) = t := ⟨_, rfl⟩
  have hts : t.size ≤ 11 := by rw [← ht2]; exact Nat.le_trans (hex_len8 hul) (by decide)
  have HT := Lib.hid (show ((m ++ ⟨#[36]⟩) ++ t).data.toList = markOf 8 :: 36 :: hexDigits u by rw [← hm, ← ht2]; simp)
  have HH : Hid (∀ W, Deb W → Calls Tryz.prog 55 #[.int .u32 u] W fun e w' => e = .returned (.string t) ∧ Below W.heap.size W w') := Lib.hid fun W hd => by rw [← ht2]; exact impl_hextext u hul W hd
  clear ht2 hu hul
  clear ht hm
  go_enter Tryz.func20, Tryz.ntmps20
  go_wp2_with fail
  refine (HO.out _ ?_).mono ?_
  · exact (HI.out _).tabs
  rintro e w1 ⟨rfl, hb1⟩
  have hx1 := box_mono (box_start w _) (hb1.mono (by simp))
  obtain ⟨c0, c1, c2, c3, c4⟩ := it_box hx1
  have HX := Lib.hid hx1
  clear hb1 hx1
  go_wp2_with fail
  refine (HW.out _).mono ?_
  rintro e w2 ⟨rfl, rfl⟩
  go_wp2_with fail
  refine (HN.out _).mono ?_
  rintro e w2 ⟨rfl, rfl⟩
  go_wp2_with fail
  refine (HH.out _ ?_).mono ?_
  · exact (HL.out _ _ HX.out).deb
  rintro e w2 ⟨rfl, hb2⟩
  have HX2 := Lib.hid (box_mono HX.out hb2)
  clear hb2
  go_wp2_with fail
  go_ret
  exact str_end HT.out (box_below HX2.out)

set_option maxRecDepth 100000 in
set_option maxHeartbeats 2000000 in
theorem it_dec8 (nm : ByteArray) (n : Int) (hn : -2147483648 ≤ n ∧ n ≤ 2147483647) (r : Int) (HO : OkP 8 nm n false r true) (w : World) (ht : TextIn w) :
    Calls Tryz.prog 20 #[itA 8 nm n false r] w (TextEnd (markOf 8 :: 35 :: Lib.itoa n) w) := by
  have HI := Lib.hid (fun o => text_alloc ht o)
  have HL : Hid (∀ (o : Obj) (W : World), Below (w.heap.size + 1) (w.alloc o) W → TextIn W) := Lib.hid fun o W hb => text_later ht hb
  have HW : Hid (∀ W, Calls Tryz.prog 53 #[.int .i64 8] W fun e w' => e = .returned (.bool false) ∧ W = w') := Lib.hid (fun W => (show wordK 8 = false by decide) ▸ isword_any 8 W)
  have HN : Hid (∀ W, Calls Tryz.prog 54 #[.int .i64 8] W fun e w' => e = .returned (.bool true) ∧ W = w') := Lib.hid (fun W => (show numK 8 = true by decide) ▸ isnumber_any 8 W)
  obtain ⟨m, hm⟩ : ∃ m : ByteArray, (⟨#[markOf 8]⟩ : ByteArray) = m := ⟨_, rfl⟩
  have hE : Utf8.encode (((⟨#[37, 126, 58, 61, 34, 94, 95, 126, 61, 38]⟩ : ByteArray)[8]'(by decide)).toNat : Int) = m := by rw [← hm]; decide +kernel
  have hms : m.size = 1 := by rw [← hm]; rfl
  have hnw : IntKind.i64.wrap n = n := by rw [IntKind.wrap_i64]; omega
  obtain ⟨t, ht2⟩ : ∃ t : ByteArray, (⟨(Lib.itoa n).toArray⟩ : ByteArray) = t := ⟨_, rfl⟩
  have hts : t.size ≤ 11 := by rw [← ht2]; exact itoa_len (by omega) (by omega)
  have HT := Lib.hid (show ((m ++ ⟨#[35]⟩) ++ t).data.toList = markOf 8 :: 35 :: Lib.itoa n by rw [← hm, ← ht2]; simp)
  have HH : Hid (∀ W, PowT W → Calls Tryz.prog 56 #[.int .i64 n] W fun e w' => e = .returned (.string t) ∧ Below W.heap.size W w') := Lib.hid fun W hd => by rw [← ht2]; exact impl_dectext n (by omega) (by omega) W hd
  clear ht2
  clear ht hm
  go_enter Tryz.func20, Tryz.ntmps20
  go_wp2_with fail
  refine (HO.out _ ?_).mono ?_
  · exact (HI.out _).tabs
  rintro e w1 ⟨rfl, hb1⟩
  have hx1 := box_mono (box_start w _) (hb1.mono (by simp))
  obtain ⟨c0, c1, c2, c3, c4⟩ := it_box hx1
  have HX := Lib.hid hx1
  clear hb1 hx1
  go_wp2_with fail
  refine (HW.out _).mono ?_
  rintro e w2 ⟨rfl, rfl⟩
  go_wp2_with fail
  refine (HN.out _).mono ?_
  rintro e w2 ⟨rfl, rfl⟩
  go_wp2_with fail
  refine (HN.out _).mono ?_
  rintro e w2 ⟨rfl, rfl⟩
  go_wp2_with fail
  refine (HH.out _ ?_).mono ?_
  · exact (HL.out _ _ HX.out).pow
  rintro e w2 ⟨rfl, hb2⟩
  have HX2 := Lib.hid (box_mono HX.out hb2)
  clear hb2
  go_wp2_with fail
  go_ret
  exact str_end HT.out (box_below HX2.out)

theorem two_cells {w W : World} {k n r : Int} {nm : ByteArray} {x : Bool} {t : TypeId} (h : Below (w.heap.size + 1) (w.alloc (.cells #[.int .i64 k, .string nm, .int .i32 n, .bool x, .int .u32 r] t)) W) :
    W.cell? ⟨w.heap.size, 1, none⟩ = some (.string nm) ∧ W.cell? ⟨w.heap.size, 2, none⟩ = some (.int .i32 n) := ⟨(it_box h).2.1, (it_box h).2.2.1⟩

set_option maxRecDepth 100000 in
set_option maxHeartbeats 2000000 in
theorem it_var (nm : ByteArray) (hs : nm.size ≤ 24) (n : Int) (hn : -2147483648 ≤ n ∧ n ≤ 2147483647) (x : Bool) (r : Int) (HO : OkP 9 nm n x r true) (w : World) (ht : TextIn w) :
    Calls Tryz.prog 20 #[itA 9 nm n x r] w (TextEnd (markOf 9 :: (nm.data.toList ++ 35 :: Lib.itoa n)) w) := by
  have HI := Lib.hid (fun o => text_alloc ht o)
  have HL : Hid (∀ (o : Obj) (W : World), Below (w.heap.size + 1) (w.alloc o) W → TextIn W) := Lib.hid fun o W hb => text_later ht hb
  have HW : Hid (∀ W, Calls Tryz.prog 53 #[.int .i64 9] W fun e w' => e = .returned (.bool false) ∧ W = w') := Lib.hid (fun W => (show wordK 9 = false by decide) ▸ isword_any 9 W)
  have HN : Hid (∀ W, Calls Tryz.prog 54 #[.int .i64 9] W fun e w' => e = .returned (.bool false) ∧ W = w') := Lib.hid (fun W => (show numK 9 = false by decide) ▸ isnumber_any 9 W)
  obtain ⟨m, hm⟩ : ∃ m : ByteArray, (⟨#[markOf 9]⟩ : ByteArray) = m := ⟨_, rfl⟩
  have hE : Utf8.encode (((⟨#[37, 126, 58, 61, 34, 94, 95, 126, 61, 38]⟩ : ByteArray)[9]'(by decide)).toNat : Int) = m := by rw [← hm]; decide +kernel
  have hms : m.size = 1 := by rw [← hm]; rfl
  have hnw : IntKind.i64.wrap n = n := by rw [IntKind.wrap_i64]; omega
  obtain ⟨t, ht2⟩ : ∃ t : ByteArray, (⟨(Lib.itoa n).toArray⟩ : ByteArray) = t := ⟨_, rfl⟩
  have hts : t.size ≤ 11 := by rw [← ht2]; exact itoa_len (by omega) (by omega)
  have HT := Lib.hid (show (((m ++ nm) ++ ⟨#[35]⟩) ++ t).data.toList = markOf 9 :: (nm.data.toList ++ 35 :: Lib.itoa n) by rw [← hm, ← ht2]; simp)
  have HH : Hid (∀ W, PowT W → Calls Tryz.prog 56 #[.int .i64 n] W fun e w' => e = .returned (.string t) ∧ Below W.heap.size W w') := Lib.hid fun W hd => by rw [← ht2]; exact impl_dectext n (by omega) (by omega) W hd
  clear ht2
  have s1 : (9223372036854775807 < m.size + nm.size) = False := eq_false (by omega)
  have s2 : (9223372036854775807 < m.size + nm.size + 1) = False := eq_false (by omega)
  have s3 : (9223372036854775807 < m.size + nm.size + 1 + t.size) = False := eq_false (by omega)
  clear hms
  clear ht hm
  go_enter Tryz.func20, Tryz.ntmps20
  go_wp2_with fail
  refine (HO.out _ ?_).mono ?_
  · exact (HI.out _).tabs
  rintro e w1 ⟨rfl, hb1⟩
  have hx1 := box_mono (box_start w _) (hb1.mono (by simp))
  obtain ⟨c0, c1, c2, c3, c4⟩ := it_box hx1
  have HX := Lib.hid hx1
  clear hb1 hx1
  go_wp2_with fail
  refine (HW.out _).mono ?_
  rintro e w2 ⟨rfl, rfl⟩
  go_wp2_with fail
  refine (HN.out _).mono ?_
  rintro e w2 ⟨rfl, rfl⟩
  go_wp2_with fail
  refine (HN.out _).mono ?_
  rintro e w2 ⟨rfl, rfl⟩
  go_wp2_with fail
  have hxd := Lib.hid (show Below (w.heap.size + 1) (w.alloc (.cells #[.int .i64 9, .string nm, .int .i32 n, .bool x, .int .u32 r] 38)) w1.drew from HX.out.drew)
  clear HX
  go_region_held3 (fun w' => w'.cell? ⟨w.heap.size, 1, none⟩ = some (.string nm) ∧ w'.cell? ⟨w.heap.size, 2, none⟩ = some (.int .i32 n)) (first | exact two_cells hxd.out | go_keep | exact two_cells (box_mono hxd.out hb2)) (first | (go_at_call 56; refine (HH.out _ (HL.out _ _ hxd.out).pow).mono ?_; rintro e w2 ⟨rfl, hb2⟩))
  go_wp2
  go_ret
  exact str_end HT.out (box_below (box_mono hxd.out hb2))

/-- The program's text of an item is the plain one. -/
theorem impl_itemtext (it : It) (hin : ItIn it) (w : World) (ht : TextIn w) : Calls Tryz.prog 20 #[itVal it] w (TextEnd (textOf it) w) := by
  have HO := Lib.hid (fun W hc => impl_itemok it hin W hc)
  by_cases hc : cellsOf it = []
  · rw [text_no hc]
    rw [show decide (cellsOf it ≠ []) = false from decide_eq_false (fun h => h hc)] at HO
    exact it_no _ _ _ _ _ HO w ht
  · rw [text_yes hc]
    rw [show decide (cellsOf it ≠ []) = true from decide_eq_true hc] at HO
    have hf := form_of hc
    obtain ⟨k, nm, n, x, r⟩ := it
    have n1 := hin.n1
    have n2 := hin.n2
    have hr := hin.r
    simp only at n1 n2 hr
    rcases hf with ⟨h0, _⟩ | ⟨h0, _⟩ | ⟨h0, _, _, h3⟩ | ⟨h0, _, _, _, h4⟩ <;> simp only at h0
    · rw [tail_raw h0]
      subst h0
      exact it_raw nm n x r hr HO w ht
    · rw [tail_num h0]
      rcases h0 with rfl | rfl <;> cases x
      · exact it_dec7 nm n ⟨n1, n2⟩ _ HO w ht
      · exact it_hex7 nm n _ HO w ht
      · exact it_dec8 nm n ⟨n1, n2⟩ _ HO w ht
      · exact it_hex8 nm n _ HO w ht
    · rw [tail_var h0]
      subst h0
      exact it_var nm (nameL_size h3) n ⟨n1, n2⟩ x _ HO w ht
    · rw [tail_word h0]
      have hk : k = 1 ∨ k = 2 ∨ k = 3 ∨ k = 4 ∨ k = 5 ∨ k = 6 := by omega
      rcases hk with rfl | rfl | rfl | rfl | rfl | rfl
      · exact it_word1 nm hin.s n x _ HO w ht
      · exact it_word2 nm hin.s n x _ HO w ht
      · exact it_word3 nm hin.s n x _ HO w ht
      · exact it_word4 nm hin.s n x _ HO w ht
      · exact it_word5 nm hin.s n x _ HO w ht
      · exact it_word6 nm hin.s n x _ HO w ht
end Go.Proofs.YtogdbfjagnbllaaGreatDoor
