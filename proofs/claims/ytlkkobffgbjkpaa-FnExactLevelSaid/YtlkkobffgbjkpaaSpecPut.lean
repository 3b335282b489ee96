/-
  spec.l08Put: numbers taken out of Data, others put on.
-/
import Derived.Test.YtlkkobffgbjkpaaSpecFault
namespace Go.Proofs.Ytlkkobffgbjkpaa
open Go.RowKit Go

end Go.Proofs.Ytlkkobffgbjkpaa
