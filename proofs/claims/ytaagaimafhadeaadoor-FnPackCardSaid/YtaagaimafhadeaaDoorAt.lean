/-
  The laws' own small functions: whether a code is too long, a byte of it.
-/
import Derived.Test.YtaagaimafhadeaaDoorDraw
namespace Go.Proofs.YtaagaimafhadeaaDoor
open Go.RowKit Go

theorem big_any (A : Option Addr) (len cap : Nat) (w : World) : Calls Tryd.prog 10 #[.slice A len cap] w fun e w' => e = .returned (.bool (decide (1048576 < (len : Int)))) ∧ w = w' := by
  go_enter Tryd.func10, Tryd.ntmps10
  go_wp2
  go_ret
  exact ⟨rfl, rfl⟩
/-- A byte of the code, or a number that follows from its length. -/
def AByte (w : World) (e : Ending) (w' : World) : Prop := ∃ x : Nat, e = .returned (.int .i64 x) ∧ x ≤ 255 ∧ w = w'
end Go.Proofs.YtaagaimafhadeaaDoor
