/-
  What every row of this seat asks of the program as a whole.
-/
import Derived.Test.YthihfgjolioabaaRows
import Derived.Test.YthihfgjolioabaaLaw
import Derived.MakeChecks
namespace Go.Proofs.Ythihfgjolioabaa
theorem own : ownKnob Try.prog.godebug = none := by kernel_rfl
theorem laidOut : laidOutB Try.prog = true := by kernel_rfl
end Go.Proofs.Ythihfgjolioabaa
