/-
  What every row of this seat asks of the program as a whole.
-/
import Derived.Test.YtalkbebgghhjnaaDoorRows
import Derived.Test.YtalkbebgghhjnaaDoorLaw
import Derived.MakeChecks
namespace Go.Proofs.YtalkbebgghhjnaaDoor
theorem own : ownKnob Tryd.prog.godebug = none := by kernel_rfl
theorem laidOut : laidOutB Tryd.prog = true := by kernel_rfl
end Go.Proofs.YtalkbebgghhjnaaDoor
