/-
  What lists of any kind of number have in common.
-/
import Derived.Test.YtdiaiflleiebfaaDoorToU
import Derived.Deep.Onto
namespace Go.Proofs.YtdiaiflleiebfaaDoor
open Go.RowKit Go

end Go.Proofs.YtdiaiflleiebfaaDoor
