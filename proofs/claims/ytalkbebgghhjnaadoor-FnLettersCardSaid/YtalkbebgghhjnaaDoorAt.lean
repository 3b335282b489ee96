/-
  The laws' own small functions: whether a code is too long, a byte of it.
-/
import Derived.Test.YtalkbebgghhjnaaDoorDraw
namespace Go.Proofs.YtalkbebgghhjnaaDoor
open Go.RowKit Go

theorem big_any (A : Option Addr) (len cap : Nat) (w : World) : Calls Tryd.prog 6 #[.slice A len cap] w fun e w' => e = .returned (.bool (decide (1048576 < (len : Int)))) ∧ w = w' := by
  go_enter Tryd.func6, Tryd.ntmps6
  go_wp2
  go_ret
  exact ⟨rfl, rfl⟩
/-- A byte of the code, or a number that follows from its length. -/
def AByte (w : World) (e : Ending) (w' : World) : Prop := ∃ x : Nat, e = .returned (.int .i64 x) ∧ x ≤ 255 ∧ w = w'
theorem at_any (A : Option Addr) (len cap i : Nat) (hi : i ≤ 1000) (w : World) (hcode : CodeOk w w.heap.size A len) : Calls Tryd.prog 10 #[.slice A len cap, .int .i64 i] w (AByte w) := by
  have hlen := hcode.1
  have HC := Lib.hid hcode
  clear hcode
  by_cases h : i < len
  · obtain ⟨ad, z, hA, hadb, hz0, hz1, hz⟩ := HC.out.2 i h
    subst hA
    obtain ⟨x, rfl⟩ : ∃ x : Nat, z = x := ⟨z.toNat, by omega⟩
    go_enter Tryd.func10, Tryd.ntmps10
    go_wp2
    go_ret
    exact ⟨x, rfl, by omega, rfl⟩
  · have h' : decide ((i : Int) < (len : Int)) = false := by simp; omega
    have h2 : (len : Int) ≤ (i : Int) := by omega
    clear h
    go_enter Tryd.func10, Tryd.ntmps10
    go_wp2
    go_ret
    refine ⟨(i * 7 + len) % 256, ?_, by omega, rfl⟩
    simp
end Go.Proofs.YtalkbebgghhjnaaDoor
