/-
  What every row of this seat asks of the program as a whole.
-/
import Derived.Test.YthihfgjolioabaaDoorRows
import Derived.Test.YthihfgjolioabaaDoorLaw
import Derived.MakeChecks
namespace Go.Proofs.YthihfgjolioabaaDoor
theorem own : ownKnob Tryd.prog.godebug = none := by kernel_rfl
theorem laidOut : laidOutB Tryd.prog = true := by kernel_rfl
end Go.Proofs.YthihfgjolioabaaDoor
