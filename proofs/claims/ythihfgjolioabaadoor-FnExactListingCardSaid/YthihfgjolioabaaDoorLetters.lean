/-
  The letters: LetterAt, WidthOf and LetterOf, of the program and of its model, answer the plain functions.
-/
import Derived.Test.YthihfgjolioabaaDoorIn
import Derived.Test.YthihfgjolioabaaDoorLetMath
import Derived.Test.YthihfgjolioabaaDoorShelf
namespace Go.Proofs.YthihfgjolioabaaDoor
open Go.RowKit

end Go.Proofs.YthihfgjolioabaaDoor
