/-
  What every row of this seat asks of the program as a whole.
-/
import Derived.Test.YthelbjlckndklaaRows
import Derived.Test.YthelbjlckndklaaLaw
import Derived.MakeChecks
namespace Go.Proofs.Ythelbjlckndklaa
theorem own : ownKnob Try.prog.godebug = none := by kernel_rfl
theorem laidOut : laidOutB Try.prog = true := by kernel_rfl
end Go.Proofs.Ythelbjlckndklaa
