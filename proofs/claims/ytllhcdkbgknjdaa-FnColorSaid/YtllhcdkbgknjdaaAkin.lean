/-
  Which kinds go over into one another; a text's clone.
-/
import Derived.Test.YtllhcdkbgknjdaaItemOk
import Derived.Test.YtllhcdkbgknjdaaShelf
import Derived.Test.YtllhcdkbgknjdaaIn
namespace Go.Proofs.Ytllhcdkbgknjdaa
open Go.RowKit Go

theorem clone_any (s : ByteArray) (hs : s.size ≤ 281474976710656) (w : World) : Calls Try.prog 28 #[.string s] w fun e w' => e = .returned (.string s) ∧ Below w.heap.size w w' := by
  have HC := Lib.hid (Try.stringslite_Clone s w hs)
  go_enter Try.func28, Try.ntmps28
  go_wp2_with fail
  refine HC.out.mono ?_
  rintro e w1 ⟨rfl, hb⟩
  have HB := Lib.hid hb
  clear hb HC
  go_wp2_with fail
  go_ret
  exact ⟨rfl, HB.out⟩
set_option maxHeartbeats 1000000 in
theorem isakin_any (a b : Int) (w : World) : Calls Try.prog 17 #[.int .i64 a, .int .i64 b] w fun e w' => e = .returned (.bool (akin a b)) ∧ w = w' := by
  by_cases hab : a = b
  · have e : akin a b = true := by unfold akin; simp [hab]
    rw [e]
    have b1 : (a == b) = true := by simpa using hab
    clear e hab
    go_enter Try.func17, Try.ntmps17
    go_wp2_with fail
    go_ret
    exact ⟨rfl, rfl⟩
  have b1 : (a == b) = false := by simpa using hab
  have HWA := Lib.hid (fun W => isword_any a W)
  have HWB := Lib.hid (fun W => isword_any b W)
  have HNA := Lib.hid (fun W => isnumber_any a W)
  have HNB := Lib.hid (fun W => isnumber_any b W)
  have HE : Hid (akin a b = ((wordK a && wordK b) || (numK a && numK b))) := Lib.hid (by unfold akin; rw [decide_eq_false hab, Bool.false_or])
  clear hab
  obtain ⟨p, hp⟩ : ∃ p, wordK a = p := ⟨_, rfl⟩
  obtain ⟨q, hq⟩ : ∃ q, wordK b = q := ⟨_, rfl⟩
  obtain ⟨s, hs⟩ : ∃ s, numK a = s := ⟨_, rfl⟩
  obtain ⟨t, ht⟩ : ∃ t, numK b = t := ⟨_, rfl⟩
  rw [hp] at HWA HE
  rw [hq] at HWB HE
  rw [hs] at HNA HE
  rw [ht] at HNB HE
  clear hp hq hs ht
  rw [HE.out]
  cases p with
  | true =>
    cases q with
    | true =>
      go_enter Try.func17, Try.ntmps17
      go_wp2_with fail
      refine (HWA.out _).mono ?_
      rintro e w' ⟨rfl, rfl⟩
      go_wp2_with fail
      refine (HWB.out _).mono ?_
      rintro e w' ⟨rfl, rfl⟩
      go_wp2_with fail
      go_ret
      exact ⟨rfl, rfl⟩
    | false =>
      cases s with
      | true =>
        go_enter Try.func17, Try.ntmps17
        go_wp2_with fail
        refine (HWA.out _).mono ?_
        rintro e w' ⟨rfl, rfl⟩
        go_wp2_with fail
        refine (HWB.out _).mono ?_
        rintro e w' ⟨rfl, rfl⟩
        go_wp2_with fail
        refine (HNA.out _).mono ?_
        rintro e w' ⟨rfl, rfl⟩
        go_wp2_with fail
        refine (HNB.out _).mono ?_
        rintro e w' ⟨rfl, rfl⟩
        go_wp2_with fail
        go_ret
        exact ⟨rfl, rfl⟩
      | false =>
        go_enter Try.func17, Try.ntmps17
        go_wp2_with fail
        refine (HWA.out _).mono ?_
        rintro e w' ⟨rfl, rfl⟩
        go_wp2_with fail
        refine (HWB.out _).mono ?_
        rintro e w' ⟨rfl, rfl⟩
        go_wp2_with fail
        refine (HNA.out _).mono ?_
        rintro e w' ⟨rfl, rfl⟩
        go_wp2_with fail
        go_ret
        exact ⟨rfl, rfl⟩
  | false =>
    cases s with
    | true =>
      go_enter Try.func17, Try.ntmps17
      go_wp2_with fail
      refine (HWA.out _).mono ?_
      rintro e w' ⟨rfl, rfl⟩
      go_wp2_with fail
      refine (HNA.out _).mono ?_
      rintro e w' ⟨rfl, rfl⟩
      go_wp2_with fail
      refine (HNB.out _).mono ?_
      rintro e w' ⟨rfl, rfl⟩
      go_wp2_with fail
      go_ret
      exact ⟨rfl, rfl⟩
    | false =>
      go_enter Try.func17, Try.ntmps17
      go_wp2_with fail
      refine (HWA.out _).mono ?_
      rintro e w' ⟨rfl, rfl⟩
      go_wp2_with fail
      refine (HNA.out _).mono ?_
      rintro e w' ⟨rfl, rfl⟩
      go_wp2_with fail
      go_ret
      exact ⟨rfl, rfl⟩
end Go.Proofs.Ytllhcdkbgknjdaa
