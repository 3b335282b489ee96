/-
  NameOk, of the program and of its model, tells whether a text is a name.
-/
import Derived.Test.YthihfgjolioabaaDoorLetters2
import Derived.Deep.QuietTactic
import Derived.BigQuiet
namespace Go.Proofs.YthihfgjolioabaaDoor
open Go.RowKit

end Go.Proofs.YthihfgjolioabaaDoor
