/-
  spec.l08Fault: a copy of a state with a fault.
-/
import Derived.Test.YtlkkobffgbjkpaaStAlt
import Derived.Test.YtlkkobffgbjkpaaSpecCopy
import Derived.Deep.Cut
namespace Go.Proofs.Ytlkkobffgbjkpaa
open Go.RowKit Go

end Go.Proofs.Ytlkkobffgbjkpaa
