/-
  What lists of any kind of number have in common.
-/
import Derived.Test.YthelbjlckndklaaToU
import Derived.Deep.Onto
namespace Go.Proofs.Ythelbjlckndklaa
open Go.RowKit Go

end Go.Proofs.Ythelbjlckndklaa
