/-
  What lists of any kind of number have in common.
-/
import Derived.Test.YtlkkobffgbjkpaaToU
import Derived.Deep.Onto
namespace Go.Proofs.Ytlkkobffgbjkpaa
open Go.RowKit Go

end Go.Proofs.Ytlkkobffgbjkpaa
