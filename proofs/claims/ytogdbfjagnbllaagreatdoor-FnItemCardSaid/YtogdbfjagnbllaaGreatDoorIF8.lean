/-
  impl.HexText answers the number's digits in base 16, and laws.FnExactHexText answers true, at every uint32.
  The program's text of an item is the plain one, whatever the tables of the kinds and codes hold.
  What a reader by its mark tells: the one item that could have that text, whatever the text is; plain facts.
  What strings.Cut and strings.CutPrefix give at a text of one byte: plain facts.
  An item is stored in a block of its own.
  Plain mathematics, no program: strconv.Atoi's reading of a number's own decimal text is that number; what it reads is an int.
  impl.ReadDec answers the number of -9999999999 .. 9999999999 whose decimal text its argument is, and true; or 0 and false.
  spec.ReadHex answers the number whose digits in base 16 its argument is, and true; or 0 and false.
-/
import Derived.Test.YtogdbfjagnbllaaGreatDoorIF7
import Derived.Deep.RegionHeld3
import Derived.RowKit
import Derived.Lib.IndexMore
import Derived.Lib.IndexBytes
import Derived.Lib.Strings
import Derived.Test.YtogdbfjagnbllaaGreatDoorIF4
import Derived.Lib.AtoiAll
import Derived.Test.YtogdbfjagnbllaaGreatDoorShelf
import Derived.BigQuiet
import Derived.Deep.QuietTactic
import Derived.Lib.AtoiErrMem
namespace Go.Proofs.YtogdbfjagnbllaaGreatDoor
open Go.RowKit

/-- What the calls ask of the table. -/
def Deb (w : World) : Prop := w.cell? ⟨7, 15, none⟩ = some (.int .u8 4) ∧ 7 < w.heap.size
theorem Deb.below {w w' : World} (h : Deb w) (hb : Below w.heap.size w w') : Deb w' := ⟨(hb.cell (p := ⟨_, _, none⟩) h.2).trans h.1, by have := hb.size; have := h.2; omega⟩

theorem formatuint16_in (n : Nat) (h1 : n < 4294967296) (w : World) (hd : Deb w) :
    Calls Tryz.prog 109 #[.int .u64 n, .int .i64 16] w fun e w' => e = .returned (.string ⟨(hexDigits n).toArray⟩) ∧ Below w.heap.size w w' := by
  have HC := Lib.hid (formatbits16 n h1 w hd.1 hd.2)
  clear hd
  go_enter Tryz.func109, Tryz.ntmps109
  go_wp2_with (go_at_call 129; refine HC.out.mono ?_; rintro e w' ⟨rfl, hb⟩)
  go_ret
  exact ⟨rfl, hb⟩
theorem formatuint16 (n : Nat) (h1 : n < 4294967296) (w : World) (hd : Deb w) :
    Calls Tryz.prog 82 #[.int .u64 n, .int .i64 16] w fun e w' => e = .returned (.string ⟨(hexDigits n).toArray⟩) ∧ Below w.heap.size w w' := by
  have HC := Lib.hid (formatuint16_in n h1 w hd)
  clear hd
  go_enter Tryz.func82, Tryz.ntmps82
  go_wp2_with (go_at_call 109; refine HC.out.mono ?_; rintro e w' ⟨rfl, hb⟩)
  go_ret
  exact ⟨rfl, hb⟩
theorem impl_hextext (n : Nat) (h1 : n < 4294967296) (w : World) (hd : Deb w) :
    Calls Tryz.prog 55 #[.int .u32 n] w fun e w' => e = .returned (.string ⟨(hexDigits n).toArray⟩) ∧ Below w.heap.size w w' := by
  have HC := Lib.hid (formatuint16 n h1 w hd)
  clear hd
  go_enter Tryz.func55, Tryz.ntmps55
  go_wp2_with (go_at_call 82; refine HC.out.mono ?_; rintro e w' ⟨rfl, hb⟩)
  go_ret
  exact ⟨rfl, hb⟩
end Go.Proofs.YtogdbfjagnbllaaGreatDoor

namespace Go.Proofs.YtogdbfjagnbllaaGreatDoor
open Go.RowKit Go

/-- What the program's text of an item asks of memory. -/
abbrev PowT (w : World) : Prop := Lib.TabIs Tryz.prog w "internal/strconv.uint64pow10" .u64 Lib.pow10Tab
structure TextIn (w : World) : Prop where
  tabs : TabsAny w
  pow : PowT w
  deb : Deb w
theorem TextIn.below {w w' : World} (h : TextIn w) (hb : Below w.heap.size w w') : TextIn w' := ⟨h.tabs.below hb, tab_below h.pow hb, h.deb.below hb⟩
abbrev OkP (k : Int) (nm : ByteArray) (n : Int) (x : Bool) (r : Int) (b : Bool) : Prop := Hid (∀ W, TabsAny W → Calls Tryz.prog 52 #[itA k nm n x r] W fun e w' => e = .returned (.bool b) ∧ Below W.heap.size W w')
theorem box_more {w w1 w2 : World} {o : Obj} (h1 : Below (w.heap.size + 1) (w.alloc o) w1) (h2 : Below w1.heap.size w1 w2) : Below (w.heap.size + 1) (w.alloc o) w2 := box_mono h1 h2
theorem text_alloc {w : World} (h : TextIn w) (o : Obj) : TextIn (w.alloc o) := h.below ((Below.refl _ _).alloc (Nat.le_refl _) _)
theorem text_later {w w1 : World} {o : Obj} (h : TextIn w) (hb : Below (w.heap.size + 1) (w.alloc o) w1) : TextIn w1 := (text_alloc h o).below (hb.mono (by simp))

theorem it_no (k : Int) (nm : ByteArray) (n : Int) (x : Bool) (r : Int) (HO : OkP k nm n x r false) (w : World) (ht : TextIn w) :
    Calls Tryz.prog 20 #[itA k nm n x r] w (TextEnd [] w) := by
  have HI := Lib.hid (fun o => text_alloc ht o)
  clear ht
  go_enter Tryz.func20, Tryz.ntmps20
  go_wp2_with fail
  refine (HO.out _ ?_).mono ?_
  · exact (HI.out _).tabs
  rintro e w1 ⟨rfl, hb1⟩
  have HX := Lib.hid (box_mono (box_start w _) (hb1.mono (by simp)))
  clear hb1
  go_wp2_with fail
  go_ret
  exact str_end rfl (box_below HX.out)

set_option maxHeartbeats 1000000 in
theorem it_word1 (nm : ByteArray) (hs : nm.size ≤ 4611686018427387904) (n : Int) (x : Bool) (r : Int) (HO : OkP 1 nm n x r true) (w : World) (ht : TextIn w) :
    Calls Tryz.prog 20 #[itA 1 nm n x r] w (TextEnd (markOf 1 :: nm.data.toList) w) := by
  have HI := Lib.hid (fun o => text_alloc ht o)
  have HW : Hid (∀ W, Calls Tryz.prog 53 #[.int .i64 1] W fun e w' => e = .returned (.bool true) ∧ W = w') := Lib.hid (fun W => (show wordK 1 = true by decide) ▸ isword_any 1 W)
  obtain ⟨m, hm⟩ : ∃ m : ByteArray, (⟨#[markOf 1]⟩ : ByteArray) = m := ⟨_, rfl⟩
  have hE : Utf8.encode (((⟨#[37, 126, 58, 61, 34, 94, 95, 126, 61, 38]⟩ : ByteArray)[1]'(by decide)).toNat : Int) = m := by rw [← hm]; decide +kernel
  have hms : m.size = 1 := by rw [← hm]; rfl
  have HT := Lib.hid (show (m ++ nm).data.toList = markOf 1 :: nm.data.toList by rw [← hm]; simp)
  clear ht hm
  go_enter Tryz.func20, Tryz.ntmps20
  go_wp2_with fail
  refine (HO.out _ ?_).mono ?_
  · exact (HI.out _).tabs
  rintro e w1 ⟨rfl, hb1⟩
  have hx1 := box_mono (box_start w _) (hb1.mono (by simp))
  obtain ⟨c0, c1, c2, c3, c4⟩ := it_box hx1
  have HX := Lib.hid hx1
  clear hb1 hx1
  go_wp2_with fail
  refine (HW.out _).mono ?_
  rintro e w2 ⟨rfl, rfl⟩
  go_wp2_with fail
  go_ret
  exact str_end HT.out (box_below HX.out)

set_option maxHeartbeats 1000000 in
theorem it_word2 (nm : ByteArray) (hs : nm.size ≤ 4611686018427387904) (n : Int) (x : Bool) (r : Int) (HO : OkP 2 nm n x r true) (w : World) (ht : TextIn w) :
    Calls Tryz.prog 20 #[itA 2 nm n x r] w (TextEnd (markOf 2 :: nm.data.toList) w) := by
  have HI := Lib.hid (fun o => text_alloc ht o)
  have HW : Hid (∀ W, Calls Tryz.prog 53 #[.int .i64 2] W fun e w' => e = .returned (.bool true) ∧ W = w') := Lib.hid (fun W => (show wordK 2 = true by decide) ▸ isword_any 2 W)
  obtain ⟨m, hm⟩ : ∃ m : ByteArray, (⟨#[markOf 2]⟩ : ByteArray) = m := ⟨_, rfl⟩
  have hE : Utf8.encode (((⟨#[37, 126, 58, 61, 34, 94, 95, 126, 61, 38]⟩ : ByteArray)[2]'(by decide)).toNat : Int) = m := by rw [← hm]; decide +kernel
  have hms : m.size = 1 := by rw [← hm]; rfl
  have HT := Lib.hid (show (m ++ nm).data.toList = markOf 2 :: nm.data.toList by rw [← hm]; simp)
  clear ht hm
  go_enter Tryz.func20, Tryz.ntmps20
  go_wp2_with fail
  refine (HO.out _ ?_).mono ?_
  · exact (HI.out _).tabs
  rintro e w1 ⟨rfl, hb1⟩
  have hx1 := box_mono (box_start w _) (hb1.mono (by simp))
  obtain ⟨c0, c1, c2, c3, c4⟩ := it_box hx1
  have HX := Lib.hid hx1
  clear hb1 hx1
  go_wp2_with fail
  refine (HW.out _).mono ?_
  rintro e w2 ⟨rfl, rfl⟩
  go_wp2_with fail
  go_ret
  exact str_end HT.out (box_below HX.out)

set_option maxHeartbeats 1000000 in
theorem it_word3 (nm : ByteArray) (hs : nm.size ≤ 4611686018427387904) (n : Int) (x : Bool) (r : Int) (HO : OkP 3 nm n x r true) (w : World) (ht : TextIn w) :
    Calls Tryz.prog 20 #[itA 3 nm n x r] w (TextEnd (markOf 3 :: nm.data.toList) w) := by
  have HI := Lib.hid (fun o => text_alloc ht o)
  have HW : Hid (∀ W, Calls Tryz.prog 53 #[.int .i64 3] W fun e w' => e = .returned (.bool true) ∧ W = w') := Lib.hid (fun W => (show wordK 3 = true by decide) ▸ isword_any 3 W)
  obtain ⟨m, hm⟩ : ∃ m : ByteArray, (⟨#[markOf 3]⟩ : ByteArray) = m := ⟨_, rfl⟩
  have hE : Utf8.encode (((⟨#[37, 126, 58, 61, 34, 94, 95, 126, 61, 38]⟩ : ByteArray)[3]'(by decide)).toNat : Int) = m := by rw [← hm]; decide +kernel
  have hms : m.size = 1 := by rw [← hm]; rfl
  have HT := Lib.hid (show (m ++ nm).data.toList = markOf 3 :: nm.data.toList by rw [← hm]; simp)
  clear ht hm
  go_enter Tryz.func20, Tryz.ntmps20
  go_wp2_with fail
  refine (HO.out _ ?_).mono ?_
  · exact (HI.out _).tabs
  rintro e w1 ⟨rfl, hb1⟩
  have hx1 := box_mono (box_start w _) (hb1.mono (by simp))
  obtain ⟨c0, c1, c2, c3, c4⟩ := it_box hx1
  have HX := Lib.hid hx1
  clear hb1 hx1
  go_wp2_with fail
  refine (HW.out _).mono ?_
  rintro e w2 ⟨rfl, rfl⟩
  go_wp2_with fail
  go_ret
  exact str_end HT.out (box_below HX.out)

set_option maxHeartbeats 1000000 in
theorem it_word4 (nm : ByteArray) (hs : nm.size ≤ 4611686018427387904) (n : Int) (x : Bool) (r : Int) (HO : OkP 4 nm n x r true) (w : World) (ht : TextIn w) :
    Calls Tryz.prog 20 #[itA 4 nm n x r] w (TextEnd (markOf 4 :: nm.data.toList) w) := by
  have HI := Lib.hid (fun o => text_alloc ht o)
  have HW : Hid (∀ W, Calls Tryz.prog 53 #[.int .i64 4] W fun e w' => e = .returned (.bool true) ∧ W = w') := Lib.hid (fun W => (show wordK 4 = true by decide) ▸ isword_any 4 W)
  obtain ⟨m, hm⟩ : ∃ m : ByteArray, (⟨#[markOf 4]⟩ : ByteArray) = m := ⟨_, rfl⟩
  have hE : Utf8.encode (((⟨#[37, 126, 58, 61, 34, 94, 95, 126, 61, 38]⟩ : ByteArray)[4]'(by decide)).toNat : Int) = m := by rw [← hm]; decide +kernel
  have hms : m.size = 1 := by rw [← hm]; rfl
  have HT := Lib.hid (show (m ++ nm).data.toList = markOf 4 :: nm.data.toList by rw [← hm]; simp)
  clear ht hm
  go_enter Tryz.func20, Tryz.ntmps20
  go_wp2_with fail
  refine (HO.out _ ?_).mono ?_
  · exact (HI.out _).tabs
  rintro e w1 ⟨rfl, hb1⟩
  have hx1 := box_mono (box_start w _) (hb1.mono (by simp))
  obtain ⟨c0, c1, c2, c3, c4⟩ := it_box hx1
  have HX := Lib.hid hx1
  clear hb1 hx1
  go_wp2_with fail
  refine (HW.out _).mono ?_
  rintro e w2 ⟨rfl, rfl⟩
  go_wp2_with fail
  go_ret
  exact str_end HT.out (box_below HX.out)

set_option maxHeartbeats 1000000 in
theorem it_word5 (nm : ByteArray) (hs : nm.size ≤ 4611686018427387904) (n : Int) (x : Bool) (r : Int) (HO : OkP 5 nm n x r true) (w : World) (ht : TextIn w) :
    Calls Tryz.prog 20 #[itA 5 nm n x r] w (TextEnd (markOf 5 :: nm.data.toList) w) := by
  have HI := Lib.hid (fun o => text_alloc ht o)
  have HW : Hid (∀ W, Calls Tryz.prog 53 #[.int .i64 5] W fun e w' => e = .returned (.bool true) ∧ W = w') := Lib.hid (fun W => (show wordK 5 = true by decide) ▸ isword_any 5 W)
  obtain ⟨m, hm⟩ : ∃ m : ByteArray, (⟨#[markOf 5]⟩ : ByteArray) = m := ⟨_, rfl⟩
  have hE : Utf8.encode (((⟨#[37, 126, 58, 61, 34, 94, 95, 126, 61, 38]⟩ : ByteArray)[5]'(by decide)).toNat : Int) = m := by rw [← hm]; decide +kernel
  have hms : m.size = 1 := by rw [← hm]; rfl
  have HT := Lib.hid (show (m ++ nm).data.toList = markOf 5 :: nm.data.toList by rw [← hm]; simp)
  clear ht hm
  go_enter Tryz.func20, Tryz.ntmps20
  go_wp2_with fail
  refine (HO.out _ ?_).mono ?_
  · exact (HI.out _).tabs
  rintro e w1 ⟨rfl, hb1⟩
  have hx1 := box_mono (box_start w _) (hb1.mono (by simp))
  obtain ⟨c0, c1, c2, c3, c4⟩ := it_box hx1
  have HX := Lib.hid hx1
  clear hb1 hx1
  go_wp2_with fail
  refine (HW.out _).mono ?_
  rintro e w2 ⟨rfl, rfl⟩
  go_wp2_with fail
  go_ret
  exact str_end HT.out (box_below HX.out)

set_option maxHeartbeats 1000000 in
theorem it_word6 (nm : ByteArray) (hs : nm.size ≤ 4611686018427387904) (n : Int) (x : Bool) (r : Int) (HO : OkP 6 nm n x r true) (w : World) (ht : TextIn w) :
    Calls Tryz.prog 20 #[itA 6 nm n x r] w (TextEnd (markOf 6 :: nm.data.toList) w) := by
  have HI := Lib.hid (fun o => text_alloc ht o)
  have HW : Hid (∀ W, Calls Tryz.prog 53 #[.int .i64 6] W fun e w' => e = .returned (.bool true) ∧ W = w') := Lib.hid (fun W => (show wordK 6 = true by decide) ▸ isword_any 6 W)
  obtain ⟨m, hm⟩ : ∃ m : ByteArray, (⟨#[markOf 6]⟩ : ByteArray) = m := ⟨_, rfl⟩
  have hE : Utf8.encode (((⟨#[37, 126, 58, 61, 34, 94, 95, 126, 61, 38]⟩ : ByteArray)[6]'(by decide)).toNat : Int) = m := by rw [← hm]; decide +kernel
  have hms : m.size = 1 := by rw [← hm]; rfl
  have HT := Lib.hid (show (m ++ nm).data.toList = markOf 6 :: nm.data.toList by rw [← hm]; simp)
  clear ht hm
  go_enter Tryz.func20, Tryz.ntmps20
  go_wp2_with fail
  refine (HO.out _ ?_).mono ?_
  · exact (HI.out _).tabs
  rintro e w1 ⟨rfl, hb1⟩
  have hx1 := box_mono (box_start w _) (hb1.mono (by simp))
  obtain ⟨c0, c1, c2, c3, c4⟩ := it_box hx1
  have HX := Lib.hid hx1
  clear hb1 hx1
  go_wp2_with fail
  refine (HW.out _).mono ?_
  rintro e w2 ⟨rfl, rfl⟩
  go_wp2_with fail
  go_ret
  exact str_end HT.out (box_below HX.out)

set_option maxRecDepth 100000 in
set_option maxHeartbeats 2000000 in
theorem it_raw (nm : ByteArray) (n : Int) (x : Bool) (r : Nat) (hr : r < 4294967296) (HO : OkP 0 nm n x r true) (w : World) (ht : TextIn w) :
    Calls Tryz.prog 20 #[itA 0 nm n x r] w (TextEnd (markOf 0 :: hexDigits r) w) := by
  have HI := Lib.hid (fun o => text_alloc ht o)
  have HL : Hid (∀ (o : Obj) (W : World), Below (w.heap.size + 1) (w.alloc o) W → TextIn W) := Lib.hid fun o W hb => text_later ht hb
  have HW : Hid (∀ W, Calls Tryz.prog 53 #[.int .i64 0] W fun e w' => e = .returned (.bool false) ∧ W = w') := Lib.hid (fun W => (show wordK 0 = false by decide) ▸ isword_any 0 W)
  have HN : Hid (∀ W, Calls Tryz.prog 54 #[.int .i64 0] W fun e w' => e = .returned (.bool false) ∧ W = w') := Lib.hid (fun W => (show numK 0 = false by decide) ▸ isnumber_any 0 W)
  obtain ⟨m, hm⟩ : ∃ m : ByteArray, (⟨#[markOf 0]⟩ : ByteArray) = m := ⟨_, rfl⟩
  have hE : Utf8.encode (((⟨#[37, 126, 58, 61, 34, 94, 95, 126, 61, 38]⟩ : ByteArray)[0]'(by decide)).toNat : Int) = m := by rw [← hm]; decide +kernel
  have hms : m.size = 1 := by rw [← hm]; rfl
  obtain ⟨t, ht2⟩ : ∃ t : ByteArray, (⟨(hexDigits r).toArray⟩ : ByteArray) = t := ⟨_, rfl⟩
  have hts : t.size ≤ 11 := by rw [← ht2]; exact Nat.le_trans (hex_len8 hr) (by decide)
  have HT := Lib.hid (show (m ++ t).data.toList = markOf 0 :: hexDigits r by rw [← hm, ← ht2]; simp)
  have HH : Hid (∀ W, Deb W → Calls Tryz.prog 55 #[.int .u32 r] W fun e w' => e = .returned (.string t) ∧ Below W.heap.size W w') := Lib.hid fun W hd => by rw [← ht2]; exact impl_hextext r hr W hd
  clear ht2 hr
  clear ht hm
  go_enter Tryz.func20, Tryz.ntmps20
  go_wp2_with fail
  refine (HO.out _ ?_).mono ?_
  · exact (HI.out _).tabs
  rintro e w1 ⟨rfl, hb1⟩
  have hx1 := box_mono (box_start w _) (hb1.mono (by simp))
  obtain ⟨c0, c1, c2, c3, c4⟩ := it_box hx1
  have HX := Lib.hid hx1
  clear hb1 hx1
  go_wp2_with fail
  refine (HW.out _).mono ?_
  rintro e w2 ⟨rfl, rfl⟩
  go_wp2_with fail
  refine (HN.out _).mono ?_
  rintro e w2 ⟨rfl, rfl⟩
  go_wp2_with fail
  refine (HN.out _).mono ?_
  rintro e w2 ⟨rfl, rfl⟩
  go_wp2_with fail
  refine (HH.out _ ?_).mono ?_
  · exact (HL.out _ _ HX.out).deb
  rintro e w2 ⟨rfl, hb2⟩
  have HX2 := Lib.hid (box_mono HX.out hb2)
  clear hb2
  go_wp2_with fail
  go_ret
  exact str_end HT.out (box_below HX2.out)

set_option maxRecDepth 100000 in
set_option maxHeartbeats 2000000 in
theorem it_hex7 (nm : ByteArray) (n : Int) (r : Int) (HO : OkP 7 nm n true r true) (w : World) (ht : TextIn w) :
    Calls Tryz.prog 20 #[itA 7 nm n true r] w (TextEnd (markOf 7 :: 36 :: hexDigits (lowN n)) w) := by
  have HI := Lib.hid (fun o => text_alloc ht o)
  have HL : Hid (∀ (o : Obj) (W : World), Below (w.heap.size + 1) (w.alloc o) W → TextIn W) := Lib.hid fun o W hb => text_later ht hb
  have HW : Hid (∀ W, Calls Tryz.prog 53 #[.int .i64 7] W fun e w' => e = .returned (.bool false) ∧ W = w') := Lib.hid (fun W => (show wordK 7 = false by decide) ▸ isword_any 7 W)
  have HN : Hid (∀ W, Calls Tryz.prog 54 #[.int .i64 7] W fun e w' => e = .returned (.bool true) ∧ W = w') := Lib.hid (fun W => (show numK 7 = true by decide) ▸ isnumber_any 7 W)
  obtain ⟨m, hm⟩ : ∃ m : ByteArray, (⟨#[markOf 7]⟩ : ByteArray) = m := ⟨_, rfl⟩
  have hE : Utf8.encode (((⟨#[37, 126, 58, 61, 34, 94, 95, 126, 61, 38]⟩ : ByteArray)[7]'(by decide)).toNat : Int) = m := by rw [← hm]; decide +kernel
  have hms : m.size = 1 := by rw [← hm]; rfl
  obtain ⟨u, hu⟩ : ∃ u : Nat, lowN n = u := ⟨_, rfl⟩
  have hul : u < 4294967296 := by rw [← hu]; exact lowN_lt n
  have huw : IntKind.u32.wrap n = (u : Int) := by rw [← hu, IntKind.wrap_u32]; unfold lowN; omega
  rw [hu]
  obtain ⟨t, ht2⟩ : ∃ t : ByteArray, (⟨(hexDigits u).toArray⟩ : ByteArray) = t := ⟨_, rfl⟩
  have hts : t.size ≤ 11 := by rw [← ht2]; exact Nat.le_trans (hex_len8 hul) (by decide)
  have HT := Lib.hid (show ((m ++ ⟨#[36]⟩) ++ t).data.toList = markOf 7 :: 36 :: hexDigits u by rw [← hm, ← ht2]; simp)
  have HH : Hid (∀ W, Deb W → Calls Tryz.prog 55 #[.int .u32 u] W fun e w' => e = .returned (.string t) ∧ Below W.heap.size W w') := Lib.hid fun W hd => by rw [← ht2]; exact impl_hextext u hul W hd
  clear ht2 hu hul
  clear ht hm
  go_enter Tryz.func20, Tryz.ntmps20
  go_wp2_with fail
  refine (HO.out _ ?_).mono ?_
  · exact (HI.out _).tabs
  rintro e w1 ⟨rfl, hb1⟩
  have hx1 := box_mono (box_start w _) (hb1.mono (by simp))
  obtain ⟨c0, c1, c2, c3, c4⟩ := it_box hx1
  have HX := Lib.hid hx1
  clear hb1 hx1
  go_wp2_with fail
  refine (HW.out _).mono ?_
  rintro e w2 ⟨rfl, rfl⟩
  go_wp2_with fail
  refine (HN.out _).mono ?_
  rintro e w2 ⟨rfl, rfl⟩
  go_wp2_with fail
  refine (HH.out _ ?_).mono ?_
  · exact (HL.out _ _ HX.out).deb
  rintro e w2 ⟨rfl, hb2⟩
  have HX2 := Lib.hid (box_mono HX.out hb2)
  clear hb2
  go_wp2_with fail
  go_ret
  exact str_end HT.out (box_below HX2.out)

set_option maxRecDepth 100000 in
set_option maxHeartbeats 2000000 in
theorem it_dec7 (nm : ByteArray) (n : Int) (hn : -2147483648 ≤ n ∧ n ≤ 2147483647) (r : Int) (HO : OkP 7 nm n false r true) (w : World) (ht : TextIn w) :
    Calls Tryz.prog 20 #[itA 7 nm n false r] w (TextEnd (markOf 7 :: 35 :: Lib.itoa n) w) := by
  have HI := Lib.hid (fun o => text_alloc ht o)
  have HL : Hid (∀ (o : Obj) (W : World), Below (w.heap.size + 1) (w.alloc o) W → TextIn W) := Lib.hid fun o W hb => text_later ht hb
  have HW : Hid (∀ W, Calls Tryz.prog 53 #[.int .i64 7] W fun e w' => e = .returned (.bool false) ∧ W = w') := Lib.hid (fun W => (show wordK 7 = false by decide) ▸ isword_any 7 W)
  have HN : Hid (∀ W, Calls Tryz.prog 54 #[.int .i64 7] W fun e w' => e = .returned (.bool true) ∧ W = w') := Lib.hid (fun W => (show numK 7 = true by decide) ▸ isnumber_any 7 W)
  obtain ⟨m, hm⟩ : ∃ m : ByteArray, (⟨#[markOf 7]⟩ : ByteArray) = m := ⟨_, rfl⟩
  have hE : Utf8.encode (((⟨#[37, 126, 58, 61, 34, 94, 95, 126, 61, 38]⟩ : ByteArray)[7]'(by decide)).toNat : Int) = m := by rw [← hm]; decide +kernel
  have hms : m.size = 1 := by rw [← hm]; rfl
  have hnw : IntKind.i64.wrap n = n := by rw [IntKind.wrap_i64]; omega
  obtain ⟨t, ht2⟩ : ∃ t : ByteArray, (⟨(Lib.itoa n).toArray⟩ : ByteArray) = t := ⟨_, rfl⟩
  have hts : t.size ≤ 11 := by rw [← ht2]; exact itoa_len (by omega) (by omega)
  have HT := Lib.hid (show ((m ++ ⟨#[35]⟩) ++ t).data.toList = markOf 7 :: 35 :: Lib.itoa n by rw [← hm, ← ht2]; simp)
  have HH : Hid (∀ W, PowT W → Calls Tryz.prog 56 #[.int .i64 n] W fun e w' => e = .returned (.string t) ∧ Below W.heap.size W w') := Lib.hid fun W hd => by rw [← ht2]; exact impl_dectext n (by omega) (by omega) W hd
  clear ht2
  clear ht hm
  go_enter Tryz.func20, Tryz.ntmps20
  go_wp2_with fail
  refine (HO.out _ ?_).mono ?_
  · exact (HI.out _).tabs
  rintro e w1 ⟨rfl, hb1⟩
  have hx1 := box_mono (box_start w _) (hb1.mono (by simp))
  obtain ⟨c0, c1, c2, c3, c4⟩ := it_box hx1
  have HX := Lib.hid hx1
  clear hb1 hx1
  go_wp2_with fail
  refine (HW.out _).mono ?_
  rintro e w2 ⟨rfl, rfl⟩
  go_wp2_with fail
  refine (HN.out _).mono ?_
  rintro e w2 ⟨rfl, rfl⟩
  go_wp2_with fail
  refine (HN.out _).mono ?_
  rintro e w2 ⟨rfl, rfl⟩
  go_wp2_with fail
  refine (HH.out _ ?_).mono ?_
  · exact (HL.out _ _ HX.out).pow
  rintro e w2 ⟨rfl, hb2⟩
  have HX2 := Lib.hid (box_mono HX.out hb2)
  clear hb2
  go_wp2_with fail
  go_ret
  exact str_end HT.out (box_below HX2.out)

set_option maxRecDepth 100000 in
set_option maxHeartbeats 2000000 in
theorem it_hex8 (nm : ByteArray) (n : Int) (r : Int) (HO : OkP 8 nm n true r true) (w : World) (ht : TextIn w) :
    Calls Tryz.prog 20 #[itA 8 nm n true r] w (TextEnd (markOf 8 :: 36 :: hexDigits (lowN n)) w) := by
  have HI := Lib.hid (fun o => text_alloc ht o)
  have HL : Hid (∀ (o : Obj) (W : World), Below (w.heap.size + 1) (w.alloc o) W → TextIn W) := Lib.hid fun o W hb => text_later ht hb
  have HW : Hid (∀ W, Calls Tryz.prog 53 #[.int .i64 8] W fun e w' => e = .returned (.bool false) ∧ W = w') := Lib.hid (fun W => (show wordK 8 = false by decide) ▸ isword_any 8 W)
  have HN : Hid (∀ W, Calls Tryz.prog 54 #[.int .i64 8] W fun e w' => e = .returned (.bool true) ∧ W = w') := Lib.hid (fun W => (show numK 8 = true by decide) ▸ isnumber_any 8 W)
  obtain ⟨m, hm⟩ : ∃ m : ByteArray, (⟨#[markOf 8]⟩ : ByteArray) = m := ⟨_, rfl⟩
  have hE : Utf8.encode (((⟨#[37, 126, 58, 61, 34, 94, 95, 126, 61, 38]⟩ : ByteArray)[8]'(by decide)).toNat : Int) = m := by rw [← hm]; decide +kernel
  have hms : m.size = 1 := by rw [← hm]; rfl
  obtain ⟨u, hu⟩ : ∃ u : Nat, lowN n = u := ⟨_, rfl⟩
  have hul : u < 4294967296 := by rw [← hu]; exact lowN_lt n
  have huw : IntKind.u32.wrap n = (u : Int) := by rw [← hu, IntKind.wrap_u32]; unfold lowN; omega
  rw [hu]
  obtain ⟨t, ht2⟩ : ∃ t : ByteArray, (⟨(hexDigits u).toArray⟩ : ByteArray) = t := ⟨_, rfl⟩
  have hts : t.size ≤ 11 := by rw [← ht2]; exact Nat.le_trans (hex_len8 hul) (by decide)
  have HT := Lib.hid (show ((m ++ ⟨#[36]⟩) ++ t).data.toList = markOf 8 :: 36 :: hexDigits u by rw [← hm, ← ht2]; simp)
  have HH : Hid (∀ W, Deb W → Calls Tryz.prog 55 #[.int .u32 u] W fun e w' => e = .returned (.string t) ∧ Below W.heap.size W w') := Lib.hid fun W hd => by rw [← ht2]; exact impl_hextext u hul W hd
  clear ht2 hu hul
  clear ht hm
  go_enter Tryz.func20, Tryz.ntmps20
  go_wp2_with fail
  refine (HO.out _ ?_).mono ?_
  · exact (HI.out _).tabs
  rintro e w1 ⟨rfl, hb1⟩
  have hx1 := box_mono (box_start w _) (hb1.mono (by simp))
  obtain ⟨c0, c1, c2, c3, c4⟩ := it_box hx1
  have HX := Lib.hid hx1
  clear hb1 hx1
  go_wp2_with fail
  refine (HW.out _).mono ?_
  rintro e w2 ⟨rfl, rfl⟩
  go_wp2_with fail
  refine (HN.out _).mono ?_
  rintro e w2 ⟨rfl, rfl⟩
  go_wp2_with fail
  refine (HH.out _ ?_).mono ?_
  · exact (HL.out _ _ HX.out).deb
  rintro e w2 ⟨rfl, hb2⟩
  have HX2 := Lib.hid (box_mono HX.out hb2)
  clear hb2
  go_wp2_with fail
  go_ret
  exact str_end HT.out (box_below HX2.out)

set_option maxRecDepth 100000 in
set_option maxHeartbeats 2000000 in
theorem it_dec8 (nm : ByteArray) (n : Int) (hn : -2147483648 ≤ n ∧ n ≤ 2147483647) (r : Int) (HO : OkP 8 nm n false r true) (w : World) (ht : TextIn w) :
    Calls Tryz.prog 20 #[itA 8 nm n false r] w (TextEnd (markOf 8 :: 35 :: Lib.itoa n) w) := by
  have HI := Lib.hid (fun o => text_alloc ht o)
  have HL : Hid (∀ (o : Obj) (W : World), Below (w.heap.size + 1) (w.alloc o) W → TextIn W) := Lib.hid fun o W hb => text_later ht hb
  have HW : Hid (∀ W, Calls Tryz.prog 53 #[.int .i64 8] W fun e w' => e = .returned (.bool false) ∧ W = w') := Lib.hid (fun W => (show wordK 8 = false by decide) ▸ isword_any 8 W)
  have HN : Hid (∀ W, Calls Tryz.prog 54 #[.int .i64 8] W fun e w' => e = .returned (.bool true) ∧ W = w') := Lib.hid (fun W => (show numK 8 = true by decide) ▸ isnumber_any 8 W)
  obtain ⟨m, hm⟩ : ∃ m : ByteArray, (⟨#[markOf 8]⟩ : ByteArray) = m := ⟨_, rfl⟩
  have hE : Utf8.encode (((⟨#[37, 126, 58, 61, 34, 94, 95, 126, 61, 38]⟩ : ByteArray)[8]'(by decide)).toNat : Int) = m := by rw [← hm]; decide +kernel
  have hms : m.size = 1 := by rw [← hm]; rfl
  have hnw : IntKind.i64.wrap n = n := by rw [IntKind.wrap_i64]; omega
  obtain ⟨t, ht2⟩ : ∃ t : ByteArray, (⟨(Lib.itoa n).toArray⟩ : ByteArray) = t := ⟨_, rfl⟩
  have hts : t.size ≤ 11 := by rw [← ht2]; exact itoa_len (by omega) (by omega)
  have HT := Lib.hid (show ((m ++ ⟨#[35]⟩) ++ t).data.toList = markOf 8 :: 35 :: Lib.itoa n by rw [← hm, ← ht2]; simp)
  have HH : Hid (∀ W, PowT W → Calls Tryz.prog 56 #[.int .i64 n] W fun e w' => e = .returned (.string t) ∧ Below W.heap.size W w') := Lib.hid fun W hd => by rw [← ht2]; exact impl_dectext n (by omega) (by omega) W hd
  clear ht2
  clear ht hm
  go_enter Tryz.func20, Tryz.ntmps20
  go_wp2_with fail
  refine (HO.out _ ?_).mono ?_
  · exact (HI.out _).tabs
  rintro e w1 ⟨rfl, hb1⟩
  have hx1 := box_mono (box_start w _) (hb1.mono (by simp))
  obtain ⟨c0, c1, c2, c3, c4⟩ := it_box hx1
  have HX := Lib.hid hx1
  clear hb1 hx1
  go_wp2_with fail
  refine (HW.out _).mono ?_
  rintro e w2 ⟨rfl, rfl⟩
  go_wp2_with fail
  refine (HN.out _).mono ?_
  rintro e w2 ⟨rfl, rfl⟩
  go_wp2_with fail
  refine (HN.out _).mono ?_
  rintro e w2 ⟨rfl, rfl⟩
  go_wp2_with fail
  refine (HH.out _ ?_).mono ?_
  · exact (HL.out _ _ HX.out).pow
  rintro e w2 ⟨rfl, hb2⟩
  have HX2 := Lib.hid (box_mono HX.out hb2)
  clear hb2
  go_wp2_with fail
  go_ret
  exact str_end HT.out (box_below HX2.out)

theorem two_cells {w W : World} {k n r : Int} {nm : ByteArray} {x : Bool} {t : TypeId} (h : Below (w.heap.size + 1) (w.alloc (.cells #[.int .i64 k, .string nm, .int .i32 n, .bool x, .int .u32 r] t)) W) :
    W.cell? ⟨w.heap.size, 1, none⟩ = some (.string nm) ∧ W.cell? ⟨w.heap.size, 2, none⟩ = some (.int .i32 n) := ⟨(it_box h).2.1, (it_box h).2.2.1⟩

set_option maxRecDepth 100000 in
set_option maxHeartbeats 2000000 in
theorem it_var (nm : ByteArray) (hs : nm.size ≤ 24) (n : Int) (hn : -2147483648 ≤ n ∧ n ≤ 2147483647) (x : Bool) (r : Int) (HO : OkP 9 nm n x r true) (w : World) (ht : TextIn w) :
    Calls Tryz.prog 20 #[itA 9 nm n x r] w (TextEnd (markOf 9 :: (nm.data.toList ++ 35 :: Lib.itoa n)) w) := by
  have HI := Lib.hid (fun o => text_alloc ht o)
  have HL : Hid (∀ (o : Obj) (W : World), Below (w.heap.size + 1) (w.alloc o) W → TextIn W) := Lib.hid fun o W hb => text_later ht hb
  have HW : Hid (∀ W, Calls Tryz.prog 53 #[.int .i64 9] W fun e w' => e = .returned (.bool false) ∧ W = w') := Lib.hid (fun W => (show wordK 9 = false by decide) ▸ isword_any 9 W)
  have HN : Hid (∀ W, Calls Tryz.prog 54 #[.int .i64 9] W fun e w' => e = .returned (.bool false) ∧ W = w') := Lib.hid (fun W => (show numK 9 = false by decide) ▸ isnumber_any 9 W)
  obtain ⟨m, hm⟩ : ∃ m : ByteArray, (⟨#[markOf 9]⟩ : ByteArray) = m := ⟨_, rfl⟩
  have hE : Utf8.encode (((⟨#[37, 126, 58, 61, 34, 94, 95, 126, 61, 38]⟩ : ByteArray)[9]'(by decide)).toNat : Int) = m := by rw [← hm]; decide +kernel
  have hms : m.size = 1 := by rw [← hm]; rfl
  have hnw : IntKind.i64.wrap n = n := by rw [IntKind.wrap_i64]; omega
  obtain ⟨t, ht2⟩ : ∃ t : ByteArray, (⟨(Lib.itoa n).toArray⟩ : ByteArray) = t := ⟨_, rfl⟩
  have hts : t.size ≤ 11 := by rw [← ht2]; exact itoa_len (by omega) (by omega)
  have HT := Lib.hid (show (((m ++ nm) ++ ⟨#[35]⟩) ++ t).data.toList = markOf 9 :: (nm.data.toList ++ 35 :: Lib.itoa n) by rw [← hm, ← ht2]; simp)
  have HH : Hid (∀ W, PowT W → Calls Tryz.prog 56 #[.int .i64 n] W fun e w' => e = .returned (.string t) ∧ Below W.heap.size W w') := Lib.hid fun W hd => by rw [← ht2]; exact impl_dectext n (by omega) (by omega) W hd
  clear ht2
  have s1 : (9223372036854775807 < m.size + nm.size) = False := eq_false (by omega)
  have s2 : (9223372036854775807 < m.size + nm.size + 1) = False := eq_false (by omega)
  have s3 : (9223372036854775807 < m.size + nm.size + 1 + t.size) = False := eq_false (by omega)
  clear hms
  clear ht hm
  go_enter Tryz.func20, Tryz.ntmps20
  go_wp2_with fail
  refine (HO.out _ ?_).mono ?_
  · exact (HI.out _).tabs
  rintro e w1 ⟨rfl, hb1⟩
  have hx1 := box_mono (box_start w _) (hb1.mono (by simp))
  obtain ⟨c0, c1, c2, c3, c4⟩ := it_box hx1
  have HX := Lib.hid hx1
  clear hb1 hx1
  go_wp2_with fail
  refine (HW.out _).mono ?_
  rintro e w2 ⟨rfl, rfl⟩
  go_wp2_with fail
  refine (HN.out _).mono ?_
  rintro e w2 ⟨rfl, rfl⟩
  go_wp2_with fail
  refine (HN.out _).mono ?_
  rintro e w2 ⟨rfl, rfl⟩
  go_wp2_with fail
  have hxd := Lib.hid (show Below (w.heap.size + 1) (w.alloc (.cells #[.int .i64 9, .string nm, .int .i32 n, .bool x, .int .u32 r] 38)) w1.drew from HX.out.drew)
  clear HX
  go_region_held3 (fun w' => w'.cell? ⟨w.heap.size, 1, none⟩ = some (.string nm) ∧ w'.cell? ⟨w.heap.size, 2, none⟩ = some (.int .i32 n)) (first | exact two_cells hxd.out | go_keep | exact two_cells (box_mono hxd.out hb2)) (first | (go_at_call 56; refine (HH.out _ (HL.out _ _ hxd.out).pow).mono ?_; rintro e w2 ⟨rfl, hb2⟩))
  go_wp2
  go_ret
  exact str_end HT.out (box_below (box_mono hxd.out hb2))

/-- The program's text of an item is the plain one. -/
theorem impl_itemtext (it : It) (hin : ItIn it) (w : World) (ht : TextIn w) : Calls Tryz.prog 20 #[itVal it] w (TextEnd (textOf it) w) := by
  have HO := Lib.hid (fun W hc => impl_itemok it hin W hc)
  by_cases hc : cellsOf it = []
  · rw [text_no hc]
    rw [show decide (cellsOf it ≠ []) = false from decide_eq_false (fun h => h hc)] at HO
    exact it_no _ _ _ _ _ HO w ht
  · rw [text_yes hc]
    rw [show decide (cellsOf it ≠ []) = true from decide_eq_true hc] at HO
    have hf := form_of hc
    obtain ⟨k, nm, n, x, r⟩ := it
    have n1 := hin.n1
    have n2 := hin.n2
    have hr := hin.r
    simp only at n1 n2 hr
    rcases hf with ⟨h0, _⟩ | ⟨h0, _⟩ | ⟨h0, _, _, h3⟩ | ⟨h0, _, _, _, h4⟩ <;> simp only at h0
    · rw [tail_raw h0]
      subst h0
      exact it_raw nm n x r hr HO w ht
    · rw [tail_num h0]
      rcases h0 with rfl | rfl <;> cases x
      · exact it_dec7 nm n ⟨n1, n2⟩ _ HO w ht
      · exact it_hex7 nm n _ HO w ht
      · exact it_dec8 nm n ⟨n1, n2⟩ _ HO w ht
      · exact it_hex8 nm n _ HO w ht
    · rw [tail_var h0]
      subst h0
      exact it_var nm (nameL_size h3) n ⟨n1, n2⟩ x _ HO w ht
    · rw [tail_word h0]
      have hk : k = 1 ∨ k = 2 ∨ k = 3 ∨ k = 4 ∨ k = 5 ∨ k = 6 := by omega
      rcases hk with rfl | rfl | rfl | rfl | rfl | rfl
      · exact it_word1 nm hin.s n x _ HO w ht
      · exact it_word2 nm hin.s n x _ HO w ht
      · exact it_word3 nm hin.s n x _ HO w ht
      · exact it_word4 nm hin.s n x _ HO w ht
      · exact it_word5 nm hin.s n x _ HO w ht
      · exact it_word6 nm hin.s n x _ HO w ht
end Go.Proofs.YtogdbfjagnbllaaGreatDoor

namespace Go.Proofs.YtogdbfjagnbllaaGreatDoor
open Go Go.RowKit

/-- Whatever item has the mark and the tail is this one. -/
def OnlyItem (c : UInt8) (l : List UInt8) (it : It) : Prop := ItIn it ∧ ∀ j : It, ItIn j → ItForm j → markOf j.kind = c → tailOf j = l → it = j

theorem mark_is {k : Int} (h : 0 ≤ k ∧ k ≤ 9) : k = 0 ∨ k = 1 ∨ k = 2 ∨ k = 3 ∨ k = 4 ∨ k = 5 ∨ k = 6 ∨ k = 7 ∨ k = 8 ∨ k = 9 := by omega
theorem kind_mark {k a b : Int} {c : UInt8} (h : 0 ≤ k ∧ k ≤ 9) (hm : markOf k = c) (hc : ∀ j : Int, (j = 0 ∨ j = 1 ∨ j = 2 ∨ j = 3 ∨ j = 4 ∨ j = 5 ∨ j = 6 ∨ j = 7 ∨ j = 8 ∨ j = 9) → markOf j = c → j = a ∨ j = b) : k = a ∨ k = b := hc k (mark_is h) hm
theorem only_in {k n : Int} {nm : ByteArray} {x : Bool} {r : Nat} (hk : -1 ≤ k ∧ k ≤ 9) (n1 : -2147483648 ≤ n) (n2 : n ≤ 2147483647) (hr : r < 4294967296) (hs : nm.size ≤ 4611686018427387904) : ItIn ⟨k, nm, n, x, r⟩ :=
  ⟨by show _ ≤ k; omega, by show k ≤ _; omega, n1, n2, hr, hs⟩
theorem wrap_in (n : Int) : -2147483648 ≤ wrap32 n ∧ wrap32 n ≤ 2147483647 := by unfold wrap32; omega
theorem wrap_id {n : Int} (h1 : -2147483648 ≤ n) (h2 : n ≤ 2147483647) : wrap32 n = n := by unfold wrap32; omega
theorem zero_name : noText.size ≤ 4611686018427387904 := by decide

theorem only_raw {l : List UInt8} {n : Nat} {b : Bool} (h : ReadsHex l n b) (hn : n < 4294967296) : OnlyItem 37 l ⟨0, noText, 0, false, n⟩ := by
  refine ⟨only_in (by omega) (by omega) (by omega) hn zero_name, fun j ji jf jm jt => ?_⟩
  have hk : j.kind = 0 ∨ j.kind = 0 := kind_mark (form_kind jf) jm (by rintro j (rfl | rfl | rfl | rfl | rfl | rfl | rfl | rfl | rfl | rfl) <;> decide)
  have jk : j.kind = 0 := by omega
  rw [tail_raw jk] at jt
  rcases jf with ⟨_, e1, e2, e3⟩ | ⟨h0, _⟩ | ⟨h0, _⟩ | ⟨h0, _⟩
  · obtain ⟨k, nm, m, x, r⟩ := j
    simp only at jk e1 e2 e3 jt
    subst jk e1 e2 e3
    rcases h with ⟨h1, h2, h3⟩ | ⟨h1, h2, h3⟩
    · rw [hex_inj (jt.trans h3)]
    · exact absurd jt.symm (h3 r ji.r)
  all_goals omega
theorem only_word {k : Int} (hk : k = 2 ∨ k = 4 ∨ k = 5 ∨ k = 6) {nm : ByteArray} (hs : nm.size ≤ 4611686018427387904) {l : List UInt8} (hl : nm.data.toList = l) : OnlyItem (markOf k) l ⟨k, nm, 0, false, 0⟩ := by
  refine ⟨only_in (by omega) (by omega) (by omega) (by omega) hs, fun j ji jf jm jt => ?_⟩
  have hk2 : j.kind = k ∨ j.kind = k := kind_mark (form_kind jf) jm (by rcases hk with rfl | rfl | rfl | rfl <;> rintro j (rfl | rfl | rfl | rfl | rfl | rfl | rfl | rfl | rfl | rfl) <;> decide)
  have jk : j.kind = k := by omega
  rw [tail_word (by omega)] at jt
  rcases jf with ⟨h0, _⟩ | ⟨h0, _⟩ | ⟨h0, _⟩ | ⟨_, e1, e2, e3, e4⟩
  · omega
  · omega
  · omega
  · obtain ⟨k', nm', m, x, r⟩ := j
    simp only at jk e1 e2 e3 jt
    subst jk e1 e2 e3
    rw [bytes_of_list (hl.trans jt.symm)]
theorem only_none {c : UInt8} (hc : ∀ k : Int, 0 ≤ k → k ≤ 9 → markOf k ≠ c) (l : List UInt8) {it : It} (hi : ItIn it) : OnlyItem c l it :=
  ⟨hi, fun _ _ jf jm _ => absurd jm (hc _ (form_kind jf).1 (form_kind jf).2)⟩
/-- The marks that words and numbers share. -/
def Shared (w k : Int) : Prop := (w = 1 ∧ k = 7) ∨ (w = 3 ∧ k = 8)
theorem shared_kind {w k : Int} (hs : Shared w k) {j : Int} (hj : 0 ≤ j ∧ j ≤ 9) (h : markOf j = markOf w) : j = w ∨ j = k := by
  rcases hs with ⟨rfl, rfl⟩ | ⟨rfl, rfl⟩ <;> rcases mark_is hj with rfl | rfl | rfl | rfl | rfl | rfl | rfl | rfl | rfl | rfl <;> first | omega | exact absurd h (by decide)
theorem only_plain {w k : Int} (hw : Shared w k) {nm : ByteArray} (hs : nm.size ≤ 4611686018427387904) {l : List UInt8} (hl : nm.data.toList = l) (h1 : ∀ m, l ≠ 36 :: m) (h2 : ∀ m, l ≠ 35 :: m) :
    OnlyItem (markOf w) l ⟨w, nm, 0, false, 0⟩ := by
  have hw1 : w = 1 ∨ w = 3 := by rcases hw with h | h <;> omega
  refine ⟨only_in (by omega) (by omega) (by omega) (by omega) hs, fun j ji jf jm jt => ?_⟩
  have jk := shared_kind hw (form_kind jf) jm
  by_cases hk : j.kind = 7 ∨ j.kind = 8
  · rw [tail_num hk] at jt
    split at jt
    · exact absurd jt.symm (h1 _)
    · exact absurd jt.symm (h2 _)
  have jk2 : j.kind = w := by rcases hw with h | h <;> omega
  rw [tail_word (by omega)] at jt
  rcases jf with ⟨h0, _⟩ | ⟨h0, _⟩ | ⟨h0, _⟩ | ⟨_, e1, e2, e3, e4⟩
  · omega
  · omega
  · omega
  · obtain ⟨k', nm', m, x, r⟩ := j
    simp only at jk2 e1 e2 e3 jt
    subst jk2 e1 e2 e3
    rw [bytes_of_list (hl.trans jt.symm)]
theorem shared_num {w k : Int} (hw : Shared w k) {j : It} (jf : ItForm j) (jm : markOf j.kind = markOf w) {c : UInt8} {l : List UInt8} (hc : c = 35 ∨ c = 36) (jt : tailOf j = c :: l) : j.kind = k ∧ (k = 7 ∨ k = 8) := by
  have jk := shared_kind hw (form_kind jf) jm
  obtain ⟨d, m, e, hd⟩ := tail_first jf
  rw [jt] at e
  injection e with e1 e2
  have := hd.1 (by rw [← e1]; exact hc)
  rcases hw with h | h <;> omega
theorem only_hex {w k : Int} (hw : Shared w k) {l : List UInt8} {n : Nat} {b : Bool} (h : ReadsHex l n b) (hn : n < 4294967296) : OnlyItem (markOf w) (36 :: l) ⟨k, noText, sgn n, true, 0⟩ := by
  have hs := sgn_in hn
  have hk : k = 7 ∨ k = 8 := by rcases hw with h | h <;> omega
  refine ⟨only_in (by omega) hs.1 hs.2 (by omega) zero_name, fun j ji jf jm jt => ?_⟩
  obtain ⟨jk, _⟩ := shared_num hw jf jm (.inr rfl) jt
  rw [tail_num (by omega)] at jt
  rcases jf with ⟨h0, _⟩ | ⟨_, e1, e2⟩ | ⟨h0, _⟩ | ⟨h0, _⟩
  · omega
  · obtain ⟨k', nm, m, x, r⟩ := j
    have j1 := ji.n1
    have j2 := ji.n2
    simp only at jk e1 e2 jt j1 j2
    subst jk e1 e2
    cases x with
    | false => simp at jt
    | true =>
      simp only [if_true, List.cons.injEq, true_and] at jt
      rcases h with ⟨h1, h2, h3⟩ | ⟨h1, h2, h3⟩
      · have e := hex_inj (jt.trans h3)
        rw [← e, sgn_low j1 j2]
      · exact absurd jt.symm (h3 _ (lowN_lt _))
  all_goals omega
theorem reads_wrap {l : List UInt8} {n : Int} {b : Bool} (h : ReadsDec l n b) {m : Int} (m1 : -2147483648 ≤ m) (m2 : m ≤ 2147483647) (e : Lib.itoa m = l) : wrap32 n = m := by
  rcases h with ⟨h1, h2, h3, h4⟩ | ⟨h1, h2, h3⟩
  · rw [← itoa_inj (e.trans h4), wrap_id m1 m2]
  · exact absurd e.symm (h3 m (by omega) (by omega))
theorem only_dec {w k : Int} (hw : Shared w k) {l : List UInt8} {n : Int} {b : Bool} (h : ReadsDec l n b) : OnlyItem (markOf w) (35 :: l) ⟨k, noText, wrap32 n, false, 0⟩ := by
  have hs := wrap_in n
  have hk : k = 7 ∨ k = 8 := by rcases hw with h | h <;> omega
  refine ⟨only_in (by omega) hs.1 hs.2 (by omega) zero_name, fun j ji jf jm jt => ?_⟩
  obtain ⟨jk, _⟩ := shared_num hw jf jm (.inl rfl) jt
  rw [tail_num (by omega)] at jt
  rcases jf with ⟨h0, _⟩ | ⟨_, e1, e2⟩ | ⟨h0, _⟩ | ⟨h0, _⟩
  · omega
  · obtain ⟨k', nm, m, x, r⟩ := j
    have j1 := ji.n1
    have j2 := ji.n2
    simp only at jk e1 e2 jt j1 j2
    subst jk e1 e2
    cases x with
    | true => simp at jt
    | false =>
      simp only [Bool.false_eq_true, if_false, List.cons.injEq, true_and] at jt
      rw [reads_wrap h j1 j2 jt]
  all_goals omega
theorem only_var {nm : ByteArray} (hs : nm.size ≤ 4611686018427387904) {a l : List UInt8} (ha : nm.data.toList = a) (hn : (35 : UInt8) ∉ a) {n : Int} {b : Bool} (h : ReadsDec l n b) : OnlyItem 38 (a ++ 35 :: l) ⟨9, nm, wrap32 n, false, 0⟩ := by
  have hi := wrap_in n
  refine ⟨only_in (by omega) hi.1 hi.2 (by omega) hs, fun j ji jf jm jt => ?_⟩
  have hk : j.kind = 9 ∨ j.kind = 9 := kind_mark (form_kind jf) jm (by rintro j (rfl | rfl | rfl | rfl | rfl | rfl | rfl | rfl | rfl | rfl) <;> decide)
  have jk : j.kind = 9 := by omega
  rw [tail_var jk] at jt
  rcases jf with ⟨h0, _⟩ | ⟨h0, _⟩ | ⟨_, e1, e2, e3⟩ | ⟨h0, _⟩
  · omega
  · omega
  · obtain ⟨k', nm', m, x, r⟩ := j
    have j1 := ji.n1
    have j2 := ji.n2
    simp only at jk e1 e2 e3 jt j1 j2
    subst jk e1 e2
    obtain ⟨p1, p2⟩ := split_inj (nameL_noHash e3).1 hn jt
    rw [reads_wrap h j1 j2 p2, bytes_of_list (p1.trans ha.symm)]
  · omega
theorem only_var_no {l : List UInt8} (hn : (35 : UInt8) ∉ l) {it : It} (hi : ItIn it) : OnlyItem 38 l it := by
  refine ⟨hi, fun j ji jf jm jt => ?_⟩
  have hk : j.kind = 9 ∨ j.kind = 9 := kind_mark (form_kind jf) jm (by rintro j (rfl | rfl | rfl | rfl | rfl | rfl | rfl | rfl | rfl | rfl) <;> decide)
  have jk : j.kind = 9 := by omega
  rw [tail_var jk] at jt
  exact absurd (by rw [← jt]; simp) hn

/-- The item that a reader told is the one that the text is, where its text is that text; else the text is none's. -/
theorem only_yes {c : UInt8} {l : List UInt8} {it : It} (h : OnlyItem c l it) (e : textOf it = c :: l) : ReadsItem (c :: l) it true :=
  .inl ⟨rfl, fun h0 => (by rw [text_no h0] at e; cases e), h.1, e.symm⟩
theorem only_no {c : UInt8} {l : List UInt8} {it : It} (h : OnlyItem c l it) (e : textOf it ≠ c :: l) : ReadsItem (c :: l) (rawIt 0) false :=
  .inr ⟨rfl, rfl, fun j ji jc et => by
    have et2 := et
    rw [text_yes jc] at et2
    obtain ⟨e1, e2⟩ := List.cons.inj et2
    exact e (by rw [h.2 j ji (form_of jc) e1.symm e2.symm, ← et])⟩
theorem reads_empty : ReadsItem [] (rawIt 0) false := .inr ⟨rfl, rfl, fun j _ jc e => by have := text_len jc; rw [← e] at this; simp at this⟩
end Go.Proofs.YtogdbfjagnbllaaGreatDoor

namespace Go.Proofs.YtogdbfjagnbllaaGreatDoor
open Go

theorem indexByte_or : ∀ (l : List UInt8) (c : UInt8), (∃ a m, l = a ++ c :: m ∧ c ∉ a ∧ Lib.indexByte l c = (a.length : Int)) ∨ (c ∉ l ∧ Lib.indexByte l c = -1)
  | [], _ => .inr ⟨by simp, rfl⟩
  | b :: l, c => by
    by_cases hb : b = c
    · subst hb
      exact .inl ⟨[], l, rfl, by simp, by simp [Lib.indexByte]⟩
    · have hb2 : (b == c) = false := by simpa using hb
      rcases indexByte_or l c with ⟨a, m, h1, h2, h3⟩ | ⟨h1, h2⟩
      · refine .inl ⟨b :: a, m, by rw [h1]; rfl, by simp [h2]; exact fun e => hb e.symm, ?_⟩
        have h4 : ((a.length : Int) == -1) = false := by simp
        simp [Lib.indexByte, hb2, h3, h4]
      · refine .inr ⟨by simp [h1]; exact fun e => hb e.symm, ?_⟩
        simp [Lib.indexByte, hb2, h2]
theorem cut_one (l : List UInt8) (c : UInt8) : (∃ a m, l = a ++ c :: m ∧ c ∉ a ∧ Lib.cut l [c] = (a, m, true)) ∨ (c ∉ l ∧ Lib.cut l [c] = (l, [], false)) := by
  rcases indexByte_or l c with ⟨a, m, h1, h2, h3⟩ | ⟨h1, h2⟩
  · refine .inl ⟨a, m, h1, h2, ?_⟩
    unfold Lib.cut
    rw [Lib.index_one, h3, if_pos (by omega), h1]
    simp
  · refine .inr ⟨h1, ?_⟩
    unfold Lib.cut
    rw [Lib.index_one, h2, if_neg (by omega)]
theorem prefix_one (l : List UInt8) (c : UInt8) : (∃ m, l = c :: m ∧ Lib.hasPrefix l [c] = true ∧ Lib.trimPrefix l [c] = m) ∨ ((∀ m, l ≠ c :: m) ∧ Lib.hasPrefix l [c] = false) := by
  cases l with
  | nil => exact .inr ⟨fun m h => (by cases h), rfl⟩
  | cons b l =>
    by_cases hb : c = b
    · subst hb
      refine .inl ⟨l, rfl, by simp [Lib.hasPrefix, List.isPrefixOf], by simp [Lib.trimPrefix, Lib.hasPrefix, List.isPrefixOf]⟩
    · exact .inr ⟨fun m h => hb (by injection h with h1 _; exact h1.symm), by simp [Lib.hasPrefix, List.isPrefixOf, hb]⟩
/-- Where a mark stands among the marks. -/
def marksL : List UInt8 := [37, 126, 58, 61, 34, 94, 95, 126, 61, 38]
theorem mark_at : Lib.indexByte marksL 37 = 0 ∧ Lib.indexByte marksL 126 = 1 ∧ Lib.indexByte marksL 58 = 2 ∧ Lib.indexByte marksL 61 = 3 ∧ Lib.indexByte marksL 34 = 4 ∧ Lib.indexByte marksL 94 = 5 ∧ Lib.indexByte marksL 95 = 6 ∧ Lib.indexByte marksL 38 = 9 := by decide
theorem mark_none {c : UInt8} (h : c ∉ marksL) : Lib.indexByte marksL c = -1 := by
  rcases indexByte_or marksL c with ⟨a, m, h1, _, _⟩ | ⟨_, h2⟩
  · exact absurd (by rw [h1]; simp) h
  · exact h2
end Go.Proofs.YtogdbfjagnbllaaGreatDoor

namespace Go.Proofs.YtogdbfjagnbllaaGreatDoor
open Go.RowKit Go

def putIt (w : World) (g : Nat) (k : Int) (nm : ByteArray) (n : Int) (hx : Bool) (r : Int) : World := ((((w.setCell ⟨g, 0, none⟩ (.int .i64 k)).setCell ⟨g, 1, none⟩ (.string nm)).setCell ⟨g, 2, none⟩ (.int .i32 n)).setCell ⟨g, 3, none⟩ (.bool hx)).setCell ⟨g, 4, none⟩ (.int .u32 r)
theorem putIt_below {B : Nat} {w w1 : World} {g : Nat} (h : Below B w w1) (hg : B ≤ g) (k : Int) (nm : ByteArray) (n : Int) (hx : Bool) (r : Int) : Below B w (putIt w1 g k nm n hx r) :=
  ((((h.setCell hg _).setCell hg _).setCell hg _).setCell hg _).setCell hg _
theorem putIt_blk {w : World} {g : Nat} {t : TypeId} {k0 : Int} {nm0 : ByteArray} {n0 : Int} {hx0 : Bool} {r0 : Int} (h : Blk w g t (itC k0 nm0 n0 hx0 r0)) (k : Int) (nm : ByteArray) (n : Int) (hx : Bool) (r : Int) : Blk (putIt w g k nm n hx r) g t (itC k nm n hx r) := item_put h k nm n hx r
theorem res_blk {w w1 : World} {t : TypeId} {cs : Array Value} (h : Below (w.heap.size + 1) (w.alloc (.cells cs t)) w1) : Blk w1 w.heap.size t cs := (Blk.new w t cs).below h (by omega)
end Go.Proofs.YtogdbfjagnbllaaGreatDoor

namespace Go.Proofs.YtogdbfjagnbllaaGreatDoor

theorem fold_ge : ∀ (l : List UInt8) (acc : Nat), acc ≤ l.foldl (fun a c => 10 * a + (c.toNat - 48)) acc
  | [], acc => Nat.le_refl _
  | c :: r, acc => by
    have := fold_ge r (10 * acc + (c.toNat - 48))
    simp only [List.foldl_cons]
    omega
theorem parse_fold : ∀ (l : List UInt8) (acc : Nat), (∀ c ∈ l, DigB c) → l.foldl (fun a c => 10 * a + (c.toNat - 48)) acc < 9223372036854775808 → Lib.parseUint10 acc l = .ok (l.foldl (fun a c => 10 * a + (c.toNat - 48)) acc)
  | [], acc, _, _ => by simp [Lib.parseUint10]
  | c :: r, acc, hd, hl => by
    have h1 := fold_ge r (10 * acc + (c.toNat - 48))
    have hc := hd c (by simp)
    unfold DigB at hc
    simp only [List.foldl_cons] at hl ⊢
    rw [Lib.parseUint10, if_pos hc, if_neg (by omega), if_neg (by omega), show acc * 10 + (c.toNat - 48) = 10 * acc + (c.toNat - 48) by omega]
    exact parse_fold r _ (fun x hx => hd x (by simp [hx])) hl
theorem parseMag_dec {u : Nat} (h : u < 9223372036854775808) : Lib.parseMag (Lib.decDigits u) = .ok u := by
  unfold Lib.parseMag
  rw [if_neg (decDigits_ne u)]
  have := parse_fold (Lib.decDigits u) 0 (decDigits_all u) (by have := dval_decDigits u; unfold dval at this; omega)
  rw [this]
  exact congrArg _ (dval_decDigits u)
theorem atoi_itoa {m : Int} (h0 : -9999999999 ≤ m) (h1 : m ≤ 9999999999) : Lib.atoiAll (Lib.itoa m) = .ok m := by
  by_cases hm : m < 0
  · have e : Lib.itoa m = 45 :: Lib.decDigits m.natAbs := by simp [Lib.itoa, hm]
    rw [e]
    simp only [Lib.atoiAll]
    rw [if_pos (by right; decide), parseMag_dec (by omega)]
    simp only
    rw [if_neg (by rintro ⟨h, _⟩; exact h (by decide)), if_neg (by omega), if_pos (by decide)]
    congr 1; omega
  · have e : Lib.itoa m = Lib.decDigits m.natAbs := by simp [Lib.itoa, hm]; congr 1; omega
    have hd := decDigits_all m.natAbs
    have hp := parseMag_dec (u := m.natAbs) (by omega)
    rw [e]
    generalize Lib.decDigits m.natAbs = l at hd hp
    cases l with
    | nil => simp [Lib.parseMag] at hp
    | cons c r =>
      have hc := hd c (by simp)
      unfold DigB at hc
      simp only [Lib.atoiAll]
      rw [if_neg (by omega), hp]
      simp only
      rw [if_neg (by omega), if_neg (by omega), if_neg (by omega)]
      congr 1; omega
theorem atoi_bounds {l : List UInt8} {v : Int} (h : Lib.atoiAll l = .ok v) : -9223372036854775808 ≤ v ∧ v ≤ 9223372036854775807 := by
  unfold Lib.atoiAll at h
  split at h
  · cases h
  · simp only at h
    split at h
    · cases h
    · cases h
    · split at h
      · cases h
      · split at h
        · cases h
        · injection h with h
          split at h <;> omega
theorem no_text {l : List UInt8} {v : Int} (hv : Lib.atoiAll l = .ok v) (h : -9999999999 ≤ v → v ≤ 9999999999 → l ≠ Lib.itoa v) : ∀ m : Int, -9999999999 ≤ m → m ≤ 9999999999 → l ≠ Lib.itoa m := fun m h0 h1 e => by
  have := atoi_itoa h0 h1
  rw [← e, hv] at this
  injection this with this
  subst this
  exact h h0 h1 e
end Go.Proofs.YtogdbfjagnbllaaGreatDoor

namespace Go.Proofs.YtogdbfjagnbllaaGreatDoor
open Go.RowKit

/-- strconv.Atoi, as far as a caller that writes what was read back asks: a number, or an error that is not nil. -/
theorem atoi_any (s : ByteArray) (hs : s.size ≤ 1048576) (w : World) (hc0 : ∃ t p, w.cell? ⟨4, 0, none⟩ = some (.iface t p)) (hc1 : ∃ t p, w.cell? ⟨5, 0, none⟩ = some (.iface t p)) :
    Calls Tryz.prog 124 #[.string s] w fun e w' => Below w.heap.size w w' ∧ ((∃ v, e = .returned (.tuple #[.int .i64 v, .nilIface]) ∧ Lib.atoiAll s.data.toList = .ok v) ∨ (∃ v t p, e = .returned (.tuple #[.int .i64 v, .iface t p]) ∧ ∀ v, Lib.atoiAll s.data.toList ≠ .ok v)) := by
  cases h : Lib.atoiAll s.data.toList
  · rename_i v
    refine (Tryz.strconv_Atoi_ok s (by omega) v h w).mono fun e w' ⟨he, hw⟩ => ⟨?_, .inl ⟨v, he, rfl⟩⟩
    rcases hw with rfl | ⟨t, rfl⟩
    · exact Below.refl _ _
    · exact Lib.bytesWorld_below _ _ _
  · obtain ⟨t, p, hc⟩ := hc0
    refine (Any.strconv_Atoi_syntax Tryz.laysC172 s (by omega) h _ w hc (.inr ⟨t, p, rfl⟩)).mono fun e w' ⟨N, he, _, _, hb⟩ => ⟨hb, .inr ⟨_, _, _, he, fun v => by intro h; cases h⟩⟩
  · obtain ⟨t, p, hc⟩ := hc1
    refine (Tryz.strconv_Atoi_range s (by omega) h _ w hc (.inr ⟨t, p, rfl⟩)).mono fun e w' ⟨N, he, _, _, hb⟩ => ⟨hb, .inr ⟨_, _, _, he, fun v => by intro h; cases h⟩⟩

/-- How reading a text ends. -/
def ReadOut (l : List UInt8) (w : World) (e : Ending) (w' : World) : Prop := ∃ n b, e = .returned (.tuple #[.int .i64 n, .bool b]) ∧ ReadsDec l n b ∧ Below w.heap.size w w'
theorem ReadOut.yes {l : List UInt8} {w w' : World} {v : Int} (h0 : -9999999999 ≤ v) (h1 : v ≤ 9999999999) (h : l = Lib.itoa v) (hb : Below w.heap.size w w') : ReadOut l w (.returned (.tuple #[.int .i64 v, .bool true])) w' :=
  ⟨v, true, rfl, .inl ⟨rfl, h0, h1, h⟩, hb⟩
theorem ReadOut.no {l : List UInt8} {w w' : World} (h : ∀ m : Int, -9999999999 ≤ m → m ≤ 9999999999 → l ≠ Lib.itoa m) (hb : Below w.heap.size w w') : ReadOut l w (.returned (.tuple #[.int .i64 0, .bool false])) w' :=
  ⟨0, false, rfl, .inr ⟨rfl, rfl, h⟩, hb⟩

set_option maxRecDepth 100000 in
theorem impl_readdec (s : ByteArray) (hs : s.size ≤ 1048576) (w : World) (hc0 : ∃ t p, w.cell? ⟨4, 0, none⟩ = some (.iface t p)) (hc1 : ∃ t p, w.cell? ⟨5, 0, none⟩ = some (.iface t p))
    (ht : Lib.TabIs Tryz.prog w "internal/strconv.uint64pow10" .u64 Lib.pow10Tab) :
    Calls Tryz.prog 106 #[.string s] w (ReadOut s.data.toList w) := by
  have HC := Lib.hid (atoi_any s hs w hc0 hc1)
  have HT := Lib.hid ht
  clear hc0 hc1 ht
  go_enter Tryz.func106, Tryz.ntmps106
  go_wp2_with fail
  refine HC.out.mono ?_
  rintro e w1 ⟨hb, ⟨v, rfl, hv⟩ | ⟨v, t, p, rfl, hv⟩⟩
  · have hbd := atoi_bounds hv
    have HV := Lib.hid hv
    clear hv
    by_cases h0 : v < -9999999999
    · go_wp2_with fail
      go_ret2
      exact ReadOut.no (no_text HV.out (by omega)) hb
    · by_cases h1 : 9999999999 < v
      · go_wp2_with fail
        go_ret2
        exact ReadOut.no (no_text HV.out (by omega)) hb
      · by_cases he : Lib.itoa v = s.data.toList
        · have he1 : (!Lib.itoa v == s.toList) = false := by rw [ByteArray.toList_eq, he]; simp
          have HE := Lib.hid he
          clear he
          go_wp2_with (go_at_call 56; refine (impl_dectext _ hbd.1 hbd.2 _ (tab_below HT.out hb)).mono ?_; rintro e w2 ⟨rfl, hb2⟩)
          go_ret2
          exact ReadOut.yes (by omega) (by omega) HE.out.symm (hb.trans (hb2.mono hb.size))
        · have he1 : (!Lib.itoa v == s.toList) = true := by rw [ByteArray.toList_eq]; simpa using he
          have HE := Lib.hid he
          clear he
          go_wp2_with (go_at_call 56; refine (impl_dectext _ hbd.1 hbd.2 _ (tab_below HT.out hb)).mono ?_; rintro e w2 ⟨rfl, hb2⟩)
          go_ret2
          exact ReadOut.no (no_text HV.out (fun _ _ h => HE.out h.symm)) (hb.trans (hb2.mono hb.size))
  · have NO : Hid (∀ m : Int, -9999999999 ≤ m → m ≤ 9999999999 → s.data.toList ≠ Lib.itoa m) := Lib.hid fun m h0 h1 e => hv m (by rw [e]; exact atoi_itoa h0 h1)
    clear hv
    go_wp2_with fail
    go_ret2
    exact ReadOut.no NO.out hb
end Go.Proofs.YtogdbfjagnbllaaGreatDoor

namespace Go.Proofs.YtogdbfjagnbllaaGreatDoor
open Go.RowKit

/-- How reading a text in base 16 ends. -/
def HexOut (l : List UInt8) (w : World) (e : Ending) (w' : World) : Prop := ∃ (n : Nat) (b : Bool), e = .returned (.tuple #[.int .u32 n, .bool b]) ∧ ReadsHex l n b ∧ Below w.heap.size w w'
theorem HexOut.yes {l : List UInt8} {w w' : World} {n : Nat} (h0 : n < 4294967296) (h : l = hexDigits n) (hb : Below w.heap.size w w') : HexOut l w (.returned (.tuple #[.int .u32 n, .bool true])) w' :=
  ⟨n, true, rfl, .inl ⟨rfl, h0, h⟩, hb⟩
theorem HexOut.no {l : List UInt8} {w w' : World} (h : ∀ m : Nat, m < 4294967296 → l ≠ hexDigits m) (hb : Below w.heap.size w w') : HexOut l w (.returned (.tuple #[.int .u32 0, .bool false])) w' :=
  ⟨0, false, rfl, .inr ⟨rfl, rfl, h⟩, hb⟩

def hv (l : List UInt8) (k : Nat) : Nat := hval (l.take k)
theorem hv_succ {l : List UInt8} {k : Nat} (h : k < l.length) : hv l (k + 1) = 16 * hv l k + hval1 l[k] := by
  unfold hv
  rw [List.take_succ_eq_append_getElem h, hval_snoc]

set_option maxRecDepth 100000 in
set_option maxHeartbeats 2000000 in
theorem spec_readhex (s : ByteArray) (hs : s.size ≤ 1048576) (w : World) :
    Calls Tryz.prog 87 #[.string s] w (HexOut s.data.toList w) := by
  have hsl : s.data.toList.length = s.size := by simp
  by_cases hl : 1 ≤ s.size ∧ s.size ≤ 8
  · obtain ⟨hl1, hl2⟩ := hl
    have i1 : inB (s.size : Int) 1 8 = true := inB_true (by omega) (by omega)
    go_enter Tryz.func87, Tryz.ntmps87
    go_wp2_with (first | (go_at_call 112; refine (in_any _ _ _ _).mono ?_; rintro e w' ⟨rfl, rfl⟩))
    go_loop [4, 5] (fun n i => ∃ k v : Nat, k ≤ s.size ∧ i = .int .i64 k ∧ n = .int .i64 v ∧ v < 16 ^ k ∧ Hid (v = hv s.data.toList k)) (fun _ i => s.size - (intOf i).toNat)
    case atStart => exact ⟨0, 0, by omega, rfl, rfl, by decide, Lib.hid (by simp [hv, hval])⟩
    case round =>
      obtain ⟨k, v, hk, rfl, rfl, hlt, HV⟩ := hrel
      have hpow : 16 ^ k ≤ 16 ^ 8 := Nat.pow_le_pow_right (by decide) (by omega)
      have hvb : (v : Int) < 4294967296 := by simp only [Nat.reducePow] at hpow; omega
      have HL := Lib.hid hlt
      clear hpow hlt
      by_cases hks : k < s.size
      · have hg : s.data.toList[k]'(by omega) = s[k] := by rfl
        have hsn := hv_succ (l := s.data.toList) (k := k) (by omega)
        rw [hg] at hsn
        have HS := Lib.hid hsn
        have HM : Hid (s[k] ∈ s.data.toList) := Lib.hid (by rw [← hg]; exact List.getElem_mem _)
        clear hsn hg
        by_cases hd : 48 ≤ s[k].toNat ∧ s[k].toNat ≤ 57
        · have hin : inB (s[k].toNat : Int) 48 57 = true := inB_true (by omega) (by omega)
          obtain ⟨hd1, hd2⟩ := hd
          have fin : 16 * v + s[k].toNat - 48 = hv s.data.toList (k + 1) ∧ 16 * v + s[k].toNat - 48 < 16 ^ (k + 1) := by
            have h1 := HV.out
            have h2 := HL.out
            rw [HS.out, ← h1, Nat.pow_succ]
            unfold hval1
            rw [if_pos hd2]
            omega
          have F1 := Lib.hid fin
          clear fin
          go_wp2_with (first | (go_at_call 113; refine (digit_u8 _ _).mono ?_; rintro e w' ⟨rfl, rfl⟩))
          go_round
          case rel => exact ⟨k + 1, 16 * v + s[k].toNat - 48, by omega, by go_num, by go_num, F1.out.2, F1.out.1⟩
          case measure => simp [intOf]; omega
        · have hin : inB (s[k].toNat : Int) 48 57 = false := inB_false (by omega)
          by_cases hx : 97 ≤ s[k].toNat ∧ s[k].toNat ≤ 102
          · have hin2 : inB (s[k].toNat : Int) 97 102 = true := inB_true (by omega) (by omega)
            obtain ⟨hd1, hd2⟩ := hx
            have fin : 16 * v + s[k].toNat - 87 = hv s.data.toList (k + 1) ∧ 16 * v + s[k].toNat - 87 < 16 ^ (k + 1) := by
              have h1 := HV.out
              have h2 := HL.out
              rw [HS.out, ← h1, Nat.pow_succ]
              unfold hval1
              rw [if_neg (by omega)]
              omega
            have F1 := Lib.hid fin
            clear fin hd
            go_wp2_with (first | (go_at_call 113; refine (digit_u8 _ _).mono ?_; rintro e w' ⟨rfl, rfl⟩) | (go_at_call 112; refine (in_any _ _ _ _).mono ?_; rintro e w' ⟨rfl, rfl⟩))
            go_round
            case rel => exact ⟨k + 1, 16 * v + s[k].toNat - 87, by omega, by go_num, by go_num, F1.out.2, F1.out.1⟩
            case measure => simp [intOf]; omega
          · have hin2 : inB (s[k].toNat : Int) 97 102 = false := inB_false (by omega)
            have NO : Hid (∀ m : Nat, m < 4294967296 → s.data.toList ≠ hexDigits m) := Lib.hid fun m _ h => by
              have hm := HM.out
              rw [h] at hm
              rcases hex_all _ _ hm with h | h
              · exact hd h
              · exact hx h
            have hc256 := u8_le s[k]
            clear hd hx hvb
            go_wp2_with (first | (go_at_call 113; refine (digit_u8 _ _).mono ?_; rintro e w' ⟨rfl, rfl⟩) | (go_at_call 112; refine (in_any _ _ _ _).mono ?_; rintro e w' ⟨rfl, rfl⟩))
            go_ret2
            exact HexOut.no NO.out (Below.refl _ _)
      · have hke : k = s.size := by omega
        have hval : v = hval s.data.toList := by rw [HV.out]; unfold hv; rw [List.take_of_length_le (by omega)]
        have key : ∀ m : Nat, s.data.toList = hexDigits m → m = v := fun m h => by rw [hval, h, hval_hex]
        have KEY := Lib.hid key
        clear hval hke key
        by_cases he : hexDigits v = s.data.toList
        · have he1 : (!hexDigits v == s.toList) = false := by rw [ByteArray.toList_eq, he]; simp
          have HE := Lib.hid he
          clear he
          go_wp2_with (first | (go_at_call 70; refine (spec_hextext v (by omega) _).mono ?_; rintro e w' ⟨rfl, rfl⟩))
          go_ret2
          exact HexOut.yes (by omega) HE.out.symm (Below.refl _ _)
        · have he1 : (!hexDigits v == s.toList) = true := by rw [ByteArray.toList_eq]; simpa using he
          have HE := Lib.hid he
          clear he
          go_wp2_with (first | (go_at_call 70; refine (spec_hextext v (by omega) _).mono ?_; rintro e w' ⟨rfl, rfl⟩))
          go_ret2
          exact HexOut.no (fun m _ h => HE.out (by rw [h, KEY.out m h])) (Below.refl _ _)
  · have i1 : inB (s.size : Int) 1 8 = false := inB_false (by omega)
    go_enter Tryz.func87, Tryz.ntmps87
    go_wp2_with (first | (go_at_call 112; refine (in_any _ _ _ _).mono ?_; rintro e w' ⟨rfl, rfl⟩))
    go_ret2
    refine HexOut.no (fun m h0 h => hl ?_) (Below.refl _ _)
    have e1 := hex_len8 h0
    have e2 := List.length_pos_iff.2 (hex_ne m)
    rw [← h] at e1 e2
    omega
end Go.Proofs.YtogdbfjagnbllaaGreatDoor
