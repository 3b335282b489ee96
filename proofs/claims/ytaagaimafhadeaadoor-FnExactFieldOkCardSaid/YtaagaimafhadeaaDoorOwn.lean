/-
  What every row of this seat asks of the program as a whole.
-/
import Derived.Test.YtaagaimafhadeaaDoorRows
import Derived.Test.YtaagaimafhadeaaDoorLaw
import Derived.MakeChecks
namespace Go.Proofs.YtaagaimafhadeaaDoor
theorem own : ownKnob Tryd.prog.godebug = none := by kernel_rfl
theorem laidOut : laidOutB Tryd.prog = true := by kernel_rfl
end Go.Proofs.YtaagaimafhadeaaDoor
