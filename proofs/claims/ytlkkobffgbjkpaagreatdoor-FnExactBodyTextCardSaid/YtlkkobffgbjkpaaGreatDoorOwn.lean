/-
  What every row of this seat asks of the program as a whole.
-/
import Derived.Test.YtlkkobffgbjkpaaGreatDoorRows
import Derived.Test.YtlkkobffgbjkpaaGreatDoorLaw
import Derived.MakeChecks
namespace Go.Proofs.YtlkkobffgbjkpaaGreatDoor
theorem own : ownKnob Tryz.prog.godebug = none := by kernel_rfl
theorem laidOut : laidOutB Tryz.prog = true := by kernel_rfl
end Go.Proofs.YtlkkobffgbjkpaaGreatDoor
