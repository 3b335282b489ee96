/-
  The letters: WidthOf and LetterOf, of the program and of its model, answer the plain functions.
-/
import Derived.Test.YtalkbebgghhjnaaDoorLetters
namespace Go.Proofs.YtalkbebgghhjnaaDoor
open Go.RowKit

theorem spec_widthof (k : Int) (w : World) : Calls Tryd.prog 20 #[.int .i64 k] w fun e w' => e = .returned (.int .i64 (widthOf k)) ∧ w = w' := by
  have HI : ∀ a b, Hid (Calls Tryd.prog 21 #[.int .i64 k, .int .i64 a, .int .i64 b] w fun e w' => e = .returned (.bool (inB k a b)) ∧ w = w') := fun a b => Lib.hid (in_any k a b w)
  by_cases h0 : inB k 0 7 = true
  · have e : widthOf k = 4 := by
      rw [inB_iff] at h0
      unfold widthOf
      rw [if_neg (by omega), if_pos (by omega)]
    rw [e]
    have H0 := Lib.hid h0
    clear h0 e
    go_enter Tryd.func20, Tryd.ntmps20
    go_wp2_with fail
    refine (HI 0 7).out.mono ?_
    rintro e w' ⟨he, rfl⟩
    rw [H0.out] at he
    subst he
    go_wp2_with fail
    go_ret
    exact ⟨rfl, rfl⟩
  · by_cases h1 : inB k 8 15 = true
    · have e : widthOf k = 5 := by
        rw [inB_iff] at h0 h1
        unfold widthOf
        rw [if_neg (by omega), if_neg (by omega), if_pos (by omega)]
      rw [e]
      have H0 := Lib.hid (show inB k 0 7 = false by simpa using h0)
      have H1 := Lib.hid h1
      clear h0 h1 e
      go_enter Tryd.func20, Tryd.ntmps20
      go_wp2_with fail
      refine (HI 0 7).out.mono ?_
      rintro e w' ⟨he, rfl⟩
      rw [H0.out] at he
      subst he
      go_wp2_with fail
      refine (HI 8 15).out.mono ?_
      rintro e w' ⟨he, rfl⟩
      rw [H1.out] at he
      subst he
      go_wp2_with fail
      go_ret
      exact ⟨rfl, rfl⟩
    · have H0 := Lib.hid (show inB k 0 7 = false by simpa using h0)
      have H1 := Lib.hid (show inB k 8 15 = false by simpa using h1)
      have H3 : Hid (widthOf k = if inB k 16 47 then 7 else 0) := Lib.hid (by
        rw [inB_iff] at h0 h1
        by_cases h2 : inB k 16 47 = true
        · rw [if_pos h2]
          rw [inB_iff] at h2
          unfold widthOf
          rw [if_neg (by omega), if_neg (by omega), if_neg (by omega), if_pos (by omega)]
        · rw [if_neg h2]
          rw [inB_iff] at h2
          unfold widthOf
          by_cases h4 : k < 0
          · rw [if_pos h4]
          · rw [if_neg h4, if_neg (by omega), if_neg (by omega), if_neg (by omega)])
      rw [H3.out]
      clear h0 h1
      by_cases h2 : inB k 16 47 = true
      · rw [if_pos h2]
        have H2 := Lib.hid h2
        clear h2
        go_enter Tryd.func20, Tryd.ntmps20
        go_wp2_with fail
        refine (HI 0 7).out.mono ?_
        rintro e w' ⟨he, rfl⟩
        rw [H0.out] at he
        subst he
        go_wp2_with fail
        refine (HI 8 15).out.mono ?_
        rintro e w' ⟨he, rfl⟩
        rw [H1.out] at he
        subst he
        go_wp2_with fail
        refine (HI 16 47).out.mono ?_
        rintro e w' ⟨he, rfl⟩
        rw [H2.out] at he
        subst he
        go_wp2_with fail
        go_ret
        exact ⟨rfl, rfl⟩
      · rw [if_neg h2]
        have H2 := Lib.hid (show inB k 16 47 = false by simpa using h2)
        clear h2
        go_enter Tryd.func20, Tryd.ntmps20
        go_wp2_with fail
        refine (HI 0 7).out.mono ?_
        rintro e w' ⟨he, rfl⟩
        rw [H0.out] at he
        subst he
        go_wp2_with fail
        refine (HI 8 15).out.mono ?_
        rintro e w' ⟨he, rfl⟩
        rw [H1.out] at he
        subst he
        go_wp2_with fail
        refine (HI 16 47).out.mono ?_
        rintro e w' ⟨he, rfl⟩
        rw [H2.out] at he
        subst he
        go_wp2_with fail
        go_ret
        exact ⟨rfl, rfl⟩

theorem impl_widthof (k : Int) (w : World) : Calls Tryd.prog 9 #[.int .i64 k] w fun e w' => e = .returned (.int .i64 (widthOf k)) ∧ w = w' := by
  by_cases h : 0 ≤ k ∧ k ≤ 47
  · have hb := Lib.hid (inB_true h.1 h.2)
    have hi := Lib.hid (isletter_any k w)
    by_cases h1 : k < 8
    · have e : widthOf k = 4 := by unfold widthOf; rw [if_neg (by omega), if_pos (by omega)]
      rw [e]
      clear h e
      go_enter Tryd.func9, Tryd.ntmps9
      go_wp2_with fail
      refine hi.out.mono ?_
      rintro e w' ⟨he, rfl⟩
      rw [hb.out] at he
      subst he
      go_wp2_with fail
      go_ret
      exact ⟨rfl, rfl⟩
    · by_cases h2 : k < 16
      · have e : widthOf k = 5 := by unfold widthOf; rw [if_neg (by omega), if_neg (by omega), if_pos (by omega)]
        rw [e]
        have h3 : 8 ≤ k := by omega
        clear h e h1
        go_enter Tryd.func9, Tryd.ntmps9
        go_wp2_with fail
        refine hi.out.mono ?_
        rintro e w' ⟨he, rfl⟩
        rw [hb.out] at he
        subst he
        go_wp2_with fail
        go_ret
        exact ⟨rfl, rfl⟩
      · have e : widthOf k = 7 := by unfold widthOf; rw [if_neg (by omega), if_neg (by omega), if_neg (by omega), if_pos (by omega)]
        rw [e]
        have h3 : 16 ≤ k := by omega
        have h4 : 8 ≤ k := by omega
        clear h e h1 h2
        go_enter Tryd.func9, Tryd.ntmps9
        go_wp2_with fail
        refine hi.out.mono ?_
        rintro e w' ⟨he, rfl⟩
        rw [hb.out] at he
        subst he
        go_wp2_with fail
        go_ret
        exact ⟨rfl, rfl⟩
  · have e : widthOf k = 0 := by
      unfold widthOf
      by_cases h0 : k < 0
      · rw [if_pos h0]
      · rw [if_neg h0, if_neg (by omega), if_neg (by omega), if_neg (by omega)]
    rw [e]
    have hb := Lib.hid (inB_false h)
    clear h e
    go_enter Tryd.func9, Tryd.ntmps9
    go_wp2_with fail
    refine (isletter_any _ _).mono ?_
    rintro e w' ⟨he, rfl⟩
    rw [hb.out] at he
    subst he
    go_wp2_with fail
    go_ret
    exact ⟨rfl, rfl⟩

theorem impl_letterof (c : UInt8) (w : World) : Calls Tryd.prog 13 #[.int .u8 (c.toNat : Int)] w fun e w' => e = .returned (.int .i64 (letOf c)) ∧ w = w' := by
  have HC := Lib.hid (Tryd.strings_IndexByte lets (c.toNat : Int) w)
  go_enter Tryd.func13, Tryd.ntmps13
  go_wp2_with fail
  refine HC.out.mono ?_
  rintro e w' ⟨rfl, hw⟩
  subst hw
  go_wp2_with fail
  go_ret
  exact ⟨rfl, rfl⟩

end Go.Proofs.YtalkbebgghhjnaaDoor
