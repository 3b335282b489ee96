/-
  The letters: LetterAt, WidthOf and LetterOf, of the program and of its model, answer the plain functions.
-/
import Derived.Test.YtdiaiflleiebfaaIn
import Derived.Test.YtdiaiflleiebfaaLetMath
import Derived.Test.YtdiaiflleiebfaaShelf
namespace Go.Proofs.Ytdiaiflleiebfaa
open Go.RowKit

theorem lets_any (w : World) : Calls Try.prog 70 #[] w fun e w' => e = .returned (.string lets) ∧ w = w' := by
  go_enter Try.func70, Try.ntmps70
  go_wp2
  go_ret
  exact ⟨rfl, rfl⟩

end Go.Proofs.Ytdiaiflleiebfaa
