/-
  What lists of any kind of number have in common.
-/
import Derived.Test.YthihfgjolioabaaDoorToU
import Derived.Deep.Onto
namespace Go.Proofs.YthihfgjolioabaaDoor
open Go.RowKit Go

end Go.Proofs.YthihfgjolioabaaDoor
