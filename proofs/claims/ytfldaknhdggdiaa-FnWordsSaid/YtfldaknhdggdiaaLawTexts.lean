/-
  laws.FnExactLines and laws.FnExactWords answer true at every text.
-/
import Derived.Test.YtfldaknhdggdiaaWordsSpec
import Derived.Test.YtfldaknhdggdiaaStrs
import Derived.Test.YtfldaknhdggdiaaLaw
namespace Go.Proofs.Ytfldaknhdggdiaa
open Go.RowKit Go

theorem own : ownKnob Try.prog.godebug = none := by kernel_rfl
theorem laidOut : laidOutB Try.prog = true := by kernel_rfl
theorem impl_lines (s : ByteArray) (hs : s.size ≤ 1048576) (w : World) : Calls Try.prog 10 #[.string s] w (NewStrs w (linesOf s)) := callsIn_wide.1 (impl_lines_in s hs w)
theorem impl_words (s : ByteArray) (hs : s.size ≤ 1048576) (w : World) : Calls Try.prog 8 #[.string s] w (NewStrs w (wordsOf s)) := callsIn_wide.1 (impl_words_in s hs w)
theorem linesOf_len (s : ByteArray) : (linesOf s).length ≤ s.size + 1 := by
  have h := partsOf_len qNl s
  unfold linesOf
  split
  · simp; omega
  · exact h
theorem wordsOf_len (s : ByteArray) : (wordsOf s).length ≤ s.size + 1 := by
  have h1 : (wordsOf s).length ≤ (partsOf qSp s).length := List.length_filter_le _ _
  have h2 := partsOf_len qSp s
  omega
theorem held_marks (k n : Nat) : heldAt (marks k n) k = (k : Int) + n := by unfold heldAt; rw [if_pos (by rw [marks_len]), marks_len]

set_option maxHeartbeats 2000000 in
theorem law_FnExactLines (s : ByteArray) (w : World) : Calls Try.prog 4 #[.string s] w fun e w' => e = .returned (.bool true) ∧ Below w.heap.size w w' := by
  by_cases hs : s.size ≤ 1048576
  · have i1 : (s.size : Int) ≤ 1048576 := by omega
    obtain ⟨ls, hls⟩ : ∃ ls, linesOf s = ls := ⟨_, rfl⟩
    have hlen := linesOf_len s
    rw [hls] at hlen
    have HI : ∀ W, Hid (Calls Try.prog 10 #[.string s] W (NewStrs W ls)) := fun W => Lib.hid (by rw [← hls]; exact impl_lines s hs W)
    have HS : Hid (Calls Try.prog 13 #[.string s] w (NewStrs w ls)) := Lib.hid (by rw [← hls]; exact spec_lines s hs w)
    have hl2 : ls.length ≤ 4194304 := by omega
    have m0 := held_marks 1 ls.length
    have HM := Lib.hid m0
    clear hls m0
    go_enter Try.func4, Try.ntmps4
    go_wp2_with fail
    refine HS.out.mono ?_
    rintro e W1 ⟨v0, rfl, ho0, hb1⟩
    have R0 := Lib.hid (Rd.of_own ho0 (by omega))
    clear ho0 HS
    go_wp2_with fail
    refine (HI W1).out.mono ?_
    rintro e W2 ⟨v1, rfl, ho1, hb2⟩
    have R1 := Rd.of_own ho1 (by omega)
    have hE := eqstrs_any v1 v0 ls ls W2 R1 (R0.out.below hb2)
    rw [decide_eq_true rfl] at hE
    have HE := Lib.hid hE
    have HO1 := Lib.hid ho1
    have B2 := Lib.hid hb2
    have B02 : Hid (Below w.heap.size w W2) := Lib.hid (hb1.trans (hb2.mono hb1.size))
    have S1 := hb1.size
    clear hE R1 ho1 hb2 hb1
    go_wp2_with fail
    refine HE.out.mono ?_
    rintro e W3 ⟨rfl, d, hW3⟩
    have ho3 : W3.ownsRow W1.heap.size 9 1 v1 ls.length (ls.map Value.string) := by rw [hW3]; exact HO1.out
    have B13 : Below W1.heap.size W1 W3 := by rw [hW3]; exact below_drewN B2.out d
    have B03 : Below w.heap.size w W3 := by rw [hW3]; exact below_drewN B02.out d
    have HK := Lib.hid (markS_any W1.heap.size v1 ls 1 (by omega) (by omega) hl2 W3 ho3)
    have OL := Lib.hid (own_lt ho3)
    have HB13 := Lib.hid B13
    have HB03 := Lib.hid B03
    clear ho3 B13 B03 hW3 HE HO1
    go_wp2_with fail
    refine HK.out.mono ?_
    rintro e W4 ⟨rfl, ho4, hg4⟩
    have B14 : Below W1.heap.size W1 W4 := HB13.out.grown hg4 HB13.out.size OL.out
    have B04 : Below w.heap.size w W4 := HB03.out.grown hg4 HB03.out.size (fun k hk => by have := OL.out k hk; omega)
    have R4 : Rd W4 v1 (marks 1 ls.length) := Rd.of_own (base := W1.heap.size) (e := 9) (by rw [marks_len]; exact ho4) (by rw [marks_len]; omega)
    have hH := held_any v1 (marks 1 ls.length) 1 (by omega) (by omega) (by rw [marks_len]; omega) W4 R4
    rw [HM.out] at hH
    have HH := Lib.hid hH
    have HR4 := Lib.hid R4
    have HB14 := Lib.hid B14
    have HB04 := Lib.hid B04
    clear hH R4 B14 B04 hg4 ho4 HK
    go_wp2_with fail
    refine HH.out.mono ?_
    rintro e W5 ⟨rfl, hb5⟩
    have HB15 := Lib.hid (HB14.out.trans (hb5.mono HB14.out.size))
    have HB05 := Lib.hid (HB04.out.trans (hb5.mono HB04.out.size))
    have HR5 := Lib.hid (HR4.out.below hb5)
    clear hb5 HH
    go_wp2_with fail
    refine (HI W5).out.mono ?_
    rintro e W6 ⟨v2, rfl, ho6, hb6⟩
    have B16 := HB15.out.trans (hb6.mono HB15.out.size)
    have HB06 := Lib.hid (HB05.out.trans (hb6.mono HB05.out.size))
    have HR6 := Lib.hid (HR5.out.below hb6)
    have hE := eqstrs_any v2 v0 ls ls W6 (Rd.of_own ho6 (by omega)) (R0.out.below B16)
    rw [decide_eq_true rfl] at hE
    have HE := Lib.hid hE
    clear hE ho6 hb6 B16
    go_wp2_with fail
    refine HE.out.mono ?_
    rintro e W7 ⟨rfl, d7, hW7⟩
    have R7 : Rd W7 v1 (marks 1 ls.length) := by rw [hW7]; exact HR6.out
    have HB07 : Hid (Below w.heap.size w W7) := Lib.hid (by rw [hW7]; exact below_drewN HB06.out d7)
    have hH := held_any v1 (marks 1 ls.length) 1 (by omega) (by omega) (by rw [marks_len]; omega) W7 R7
    rw [HM.out] at hH
    have HH := Lib.hid hH
    clear hH R7 hW7 HE
    go_wp2_with fail
    refine HH.out.mono ?_
    rintro e W8 ⟨rfl, hb8⟩
    have HB08 := Lib.hid (HB07.out.trans (hb8.mono HB07.out.size))
    clear hb8 HH
    go_wp2_with fail
    go_ret
    exact ⟨rfl, HB08.out⟩
  · have i1 : (1048576 : Int) < (s.size : Int) := by omega
    go_enter Try.func4, Try.ntmps4
    go_wp2_with fail
    go_ret
    exact ⟨rfl, Below.refl _ _⟩

set_option maxHeartbeats 2000000 in
theorem law_FnExactWords (s : ByteArray) (w : World) : Calls Try.prog 5 #[.string s] w fun e w' => e = .returned (.bool true) ∧ Below w.heap.size w w' := by
  by_cases hs : s.size ≤ 1048576
  · have i1 : (s.size : Int) ≤ 1048576 := by omega
    obtain ⟨ls, hls⟩ : ∃ ls, wordsOf s = ls := ⟨_, rfl⟩
    have hlen := wordsOf_len s
    rw [hls] at hlen
    have HI : ∀ W, Hid (Calls Try.prog 8 #[.string s] W (NewStrs W ls)) := fun W => Lib.hid (by rw [← hls]; exact impl_words s hs W)
    have HS : Hid (Calls Try.prog 12 #[.string s] w (NewStrs w ls)) := Lib.hid (by rw [← hls]; exact spec_words s hs w)
    have hl2 : ls.length ≤ 4194304 := by omega
    have m0 := held_marks 1 ls.length
    have HM := Lib.hid m0
    clear hls m0
    go_enter Try.func5, Try.ntmps5
    go_wp2_with fail
    refine HS.out.mono ?_
    rintro e W1 ⟨v0, rfl, ho0, hb1⟩
    have R0 := Lib.hid (Rd.of_own ho0 (by omega))
    clear ho0 HS
    go_wp2_with fail
    refine (HI W1).out.mono ?_
    rintro e W2 ⟨v1, rfl, ho1, hb2⟩
    have R1 := Rd.of_own ho1 (by omega)
    have hE := eqstrs_any v1 v0 ls ls W2 R1 (R0.out.below hb2)
    rw [decide_eq_true rfl] at hE
    have HE := Lib.hid hE
    have HO1 := Lib.hid ho1
    have B2 := Lib.hid hb2
    have B02 : Hid (Below w.heap.size w W2) := Lib.hid (hb1.trans (hb2.mono hb1.size))
    have S1 := hb1.size
    clear hE R1 ho1 hb2 hb1
    go_wp2_with fail
    refine HE.out.mono ?_
    rintro e W3 ⟨rfl, d, hW3⟩
    have ho3 : W3.ownsRow W1.heap.size 9 1 v1 ls.length (ls.map Value.string) := by rw [hW3]; exact HO1.out
    have B13 : Below W1.heap.size W1 W3 := by rw [hW3]; exact below_drewN B2.out d
    have B03 : Below w.heap.size w W3 := by rw [hW3]; exact below_drewN B02.out d
    have HK := Lib.hid (markS_any W1.heap.size v1 ls 1 (by omega) (by omega) hl2 W3 ho3)
    have OL := Lib.hid (own_lt ho3)
    have HB13 := Lib.hid B13
    have HB03 := Lib.hid B03
    clear ho3 B13 B03 hW3 HE HO1
    go_wp2_with fail
    refine HK.out.mono ?_
    rintro e W4 ⟨rfl, ho4, hg4⟩
    have B14 : Below W1.heap.size W1 W4 := HB13.out.grown hg4 HB13.out.size OL.out
    have B04 : Below w.heap.size w W4 := HB03.out.grown hg4 HB03.out.size (fun k hk => by have := OL.out k hk; omega)
    have R4 : Rd W4 v1 (marks 1 ls.length) := Rd.of_own (base := W1.heap.size) (e := 9) (by rw [marks_len]; exact ho4) (by rw [marks_len]; omega)
    have hH := held_any v1 (marks 1 ls.length) 1 (by omega) (by omega) (by rw [marks_len]; omega) W4 R4
    rw [HM.out] at hH
    have HH := Lib.hid hH
    have HR4 := Lib.hid R4
    have HB14 := Lib.hid B14
    have HB04 := Lib.hid B04
    clear hH R4 B14 B04 hg4 ho4 HK
    go_wp2_with fail
    refine HH.out.mono ?_
    rintro e W5 ⟨rfl, hb5⟩
    have HB15 := Lib.hid (HB14.out.trans (hb5.mono HB14.out.size))
    have HB05 := Lib.hid (HB04.out.trans (hb5.mono HB04.out.size))
    have HR5 := Lib.hid (HR4.out.below hb5)
    clear hb5 HH
    go_wp2_with fail
    refine (HI W5).out.mono ?_
    rintro e W6 ⟨v2, rfl, ho6, hb6⟩
    have B16 := HB15.out.trans (hb6.mono HB15.out.size)
    have HB06 := Lib.hid (HB05.out.trans (hb6.mono HB05.out.size))
    have HR6 := Lib.hid (HR5.out.below hb6)
    have hE := eqstrs_any v2 v0 ls ls W6 (Rd.of_own ho6 (by omega)) (R0.out.below B16)
    rw [decide_eq_true rfl] at hE
    have HE := Lib.hid hE
    clear hE ho6 hb6 B16
    go_wp2_with fail
    refine HE.out.mono ?_
    rintro e W7 ⟨rfl, d7, hW7⟩
    have R7 : Rd W7 v1 (marks 1 ls.length) := by rw [hW7]; exact HR6.out
    have HB07 : Hid (Below w.heap.size w W7) := Lib.hid (by rw [hW7]; exact below_drewN HB06.out d7)
    have hH := held_any v1 (marks 1 ls.length) 1 (by omega) (by omega) (by rw [marks_len]; omega) W7 R7
    rw [HM.out] at hH
    have HH := Lib.hid hH
    clear hH R7 hW7 HE
    go_wp2_with fail
    refine HH.out.mono ?_
    rintro e W8 ⟨rfl, hb8⟩
    have HB08 := Lib.hid (HB07.out.trans (hb8.mono HB07.out.size))
    clear hb8 HH
    go_wp2_with fail
    go_ret
    exact ⟨rfl, HB08.out⟩
  · have i1 : (1048576 : Int) < (s.size : Int) := by omega
    go_enter Try.func5, Try.ntmps5
    go_wp2_with fail
    go_ret
    exact ⟨rfl, Below.refl _ _⟩
end Go.Proofs.Ytfldaknhdggdiaa
