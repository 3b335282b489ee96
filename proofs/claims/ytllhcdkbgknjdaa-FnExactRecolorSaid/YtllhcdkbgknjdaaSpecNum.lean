/-
  The model's cells of a number, and the tags of words.
-/
import Derived.Test.YtllhcdkbgknjdaaCellsNum
namespace Go.Proofs.Ytllhcdkbgknjdaa
open Go.RowKit Go

set_option maxHeartbeats 1000000 in
theorem spec_narrow (n : Int) (x : Bool) (s l : Nat) (h1 : -67108864 ≤ n) (h2 : n ≤ 67108863) (w : World) : Calls Try.prog 35 #[.int .i32 n, .bool x, .int .u32 s, .int .u32 l] w (NewLen w 1) := by
  cases x with
  | true =>
    go_enter Try.func35, Try.ntmps35
    go_wp2_with fail
    go_ret
    exact new_one rfl (u32_mod _) (Below.refl _ _)
  | false =>
    go_enter Try.func35, Try.ntmps35
    go_wp2_with fail
    go_ret
    exact new_one rfl (u32_mod _) (Below.refl _ _)
set_option maxHeartbeats 1000000 in
theorem spec_wide (n : Int) (x : Bool) (s l : Nat) (h : n < -67108864 ∨ 67108863 < n) (w : World) : Calls Try.prog 35 #[.int .i32 n, .bool x, .int .u32 s, .int .u32 l] w (NewLen w 2) := by
  rcases h with h | h
  · cases x with
    | true =>
      go_enter Try.func35, Try.ntmps35
      go_wp2_with fail
      go_ret
      exact new_two rfl (u32_mod _) (u32_some _) (Below.refl _ _)
    | false =>
      go_enter Try.func35, Try.ntmps35
      go_wp2_with fail
      go_ret
      exact new_two rfl (u32_mod _) (u32_some _) (Below.refl _ _)
  · have h' : -67108864 ≤ n := by omega
    cases x with
    | true =>
      go_enter Try.func35, Try.ntmps35
      go_wp2_with fail
      go_ret
      exact new_two rfl (u32_mod _) (u32_some _) (Below.refl _ _)
    | false =>
      go_enter Try.func35, Try.ntmps35
      go_wp2_with fail
      go_ret
      exact new_two rfl (u32_mod _) (u32_some _) (Below.refl _ _)
set_option maxHeartbeats 1000000 in
theorem spec_tag (k : Int) (w : World) : Calls Try.prog 37 #[.int .i64 k] w fun e w' => e = .returned (.int .u32 (tagW k : Int)) ∧ w = w' := by
  by_cases h1 : k = 1
  · subst h1
    go_enter Try.func37, Try.ntmps37
    go_wp2_with fail
    go_ret
    exact ⟨rfl, rfl⟩
  by_cases h2 : k = 2
  · subst h2
    go_enter Try.func37, Try.ntmps37
    go_wp2_with fail
    go_ret
    exact ⟨rfl, rfl⟩
  by_cases h3 : k = 3
  · subst h3
    go_enter Try.func37, Try.ntmps37
    go_wp2_with fail
    go_ret
    exact ⟨rfl, rfl⟩
  by_cases h4 : k = 4
  · subst h4
    go_enter Try.func37, Try.ntmps37
    go_wp2_with fail
    go_ret
    exact ⟨rfl, rfl⟩
  by_cases h5 : k = 5
  · subst h5
    go_enter Try.func37, Try.ntmps37
    go_wp2_with fail
    go_ret
    exact ⟨rfl, rfl⟩
  by_cases h6 : k = 6
  · subst h6
    go_enter Try.func37, Try.ntmps37
    go_wp2_with fail
    go_ret
    exact ⟨rfl, rfl⟩
  have e : tagW k = 0 := by unfold tagW; rw [if_neg h1, if_neg h2, if_neg h3, if_neg h4, if_neg h5, if_neg h6]
  have b1 : (k == 1) = false := by simpa using h1
  have b2 : (k == 2) = false := by simpa using h2
  have b3 : (k == 3) = false := by simpa using h3
  have b4 : (k == 4) = false := by simpa using h4
  have b5 : (k == 5) = false := by simpa using h5
  have b6 : (k == 6) = false := by simpa using h6
  rw [e]
  clear e h1 h2 h3 h4 h5 h6
  go_enter Try.func37, Try.ntmps37
  go_wp2_with fail
  go_ret
  exact ⟨rfl, rfl⟩
end Go.Proofs.Ytllhcdkbgknjdaa
