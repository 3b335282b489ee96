/-
  The letters: LetterAt, WidthOf and LetterOf, of the program and of its model, answer the plain functions.
-/
import Derived.Test.YtlkkobffgbjkpaaIn
import Derived.Test.YtlkkobffgbjkpaaLetMath
import Derived.Test.YtlkkobffgbjkpaaShelf
namespace Go.Proofs.Ytlkkobffgbjkpaa
open Go.RowKit

theorem lets_any (w : World) : Calls Try.prog 118 #[] w fun e w' => e = .returned (.string lets) ∧ w = w' := by
  go_enter Try.func118, Try.ntmps118
  go_wp2
  go_ret
  exact ⟨rfl, rfl⟩

end Go.Proofs.Ytlkkobffgbjkpaa
