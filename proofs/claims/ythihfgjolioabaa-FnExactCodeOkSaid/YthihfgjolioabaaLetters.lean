/-
  The letters: LetterAt, WidthOf and LetterOf, of the program and of its model, answer the plain functions.
-/
import Derived.Test.YthihfgjolioabaaIn
import Derived.Test.YthihfgjolioabaaLetMath
import Derived.Test.YthihfgjolioabaaShelf
namespace Go.Proofs.Ythihfgjolioabaa
open Go.RowKit

theorem lets_any (w : World) : Calls Try.prog 64 #[] w fun e w' => e = .returned (.string lets) ∧ w = w' := by
  go_enter Try.func64, Try.ntmps64
  go_wp2
  go_ret
  exact ⟨rfl, rfl⟩

end Go.Proofs.Ythihfgjolioabaa
