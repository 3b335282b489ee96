/-
  What lists of any kind of number have in common.
-/
import Derived.Test.YtdiaiflleiebfaaToU
import Derived.Deep.Onto
namespace Go.Proofs.Ytdiaiflleiebfaa
open Go.RowKit Go

end Go.Proofs.Ytdiaiflleiebfaa
