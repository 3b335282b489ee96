/-
  What lists of any kind of number have in common.
-/
import Derived.Test.YthihfgjolioabaaToU
import Derived.Deep.Onto
namespace Go.Proofs.Ythihfgjolioabaa
open Go.RowKit Go

end Go.Proofs.Ythihfgjolioabaa
