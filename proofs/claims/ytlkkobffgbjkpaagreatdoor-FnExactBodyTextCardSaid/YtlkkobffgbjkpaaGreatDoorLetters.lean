/-
  The letters: LetterAt, WidthOf and LetterOf, of the program and of its model, answer the plain functions.
-/
import Derived.Test.YtlkkobffgbjkpaaGreatDoorIn
import Derived.Test.YtlkkobffgbjkpaaGreatDoorLetMath
import Derived.Test.YtlkkobffgbjkpaaGreatDoorShelf
namespace Go.Proofs.YtlkkobffgbjkpaaGreatDoor
open Go.RowKit

theorem lets_any (w : World) : Calls Tryz.prog 145 #[] w fun e w' => e = .returned (.string lets) ∧ w = w' := by
  go_enter Tryz.func145, Tryz.ntmps145
  go_wp2
  go_ret
  exact ⟨rfl, rfl⟩

theorem spec_letterat (k : Int) (w : World) : Calls Tryz.prog 170 #[.int .i64 k] w fun e w' => e = .returned (.int .u8 (letAt k)) ∧ w = w' := by
  by_cases h : 0 ≤ k ∧ k ≤ 47
  · obtain ⟨n, rfl⟩ : ∃ n : Nat, k = n := ⟨k.toNat, by omega⟩
    have hn : n < 48 := by omega
    have hb := Lib.hid (inB_true h.1 h.2)
    have hi := Lib.hid (in_any (n : Int) 0 47 w)
    obtain ⟨s, hs⟩ : ∃ s, lets = s := ⟨_, rfl⟩
    have ha := Lib.hid (lets_any w)
    have hA := Lib.hid (letAt_some hn)
    have hsz := lets_size
    rw [hs] at ha hsz
    have HS := Lib.hid hs
    have hlt : n < s.size := by omega
    clear h hs hsz
    go_enter Tryz.func170, Tryz.ntmps170
    go_wp2_with fail
    refine hi.out.mono ?_
    rintro e w' ⟨he, rfl⟩
    rw [hb.out] at he
    subst he
    go_wp2_with fail
    refine ha.out.mono ?_
    rintro e w' ⟨rfl, rfl⟩
    go_wp2_with fail
    go_ret
    refine ⟨?_, rfl⟩
    rw [hA.out]
    have := HS.out
    subst this
    rfl
  · rw [letAt_none h]
    have hb := Lib.hid (inB_false h)
    clear h
    go_enter Tryz.func170, Tryz.ntmps170
    go_wp2_with fail
    refine (in_any _ _ _ _).mono ?_
    rintro e w' ⟨he, rfl⟩
    rw [hb.out] at he
    subst he
    go_wp2_with fail
    go_ret
    exact ⟨rfl, rfl⟩

end Go.Proofs.YtlkkobffgbjkpaaGreatDoor
