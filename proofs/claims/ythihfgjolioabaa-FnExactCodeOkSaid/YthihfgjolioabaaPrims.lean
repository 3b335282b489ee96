/-
  The table of the built-in words.
-/
import Derived.Test.YthihfgjolioabaaKit
import Derived.Test.YthihfgjolioabaaAppend
import Derived.Handy
import Derived.Laws.Tables
import Derived.Deep.WholeRow
namespace Go.Proofs.Ythihfgjolioabaa
open Go.RowKit Go

/-- The names of the built-in words. -/
def primNames : List ByteArray := [⟨#[100, 117, 112]⟩, ⟨#[100, 114, 111, 112]⟩, ⟨#[111, 118, 101, 114]⟩, ⟨#[110, 105, 112]⟩, ⟨#[115, 119, 97, 112]⟩, ⟨#[43]⟩, ⟨#[45]⟩, ⟨#[42]⟩, ⟨#[97, 110, 100]⟩, ⟨#[111, 114]⟩, ⟨#[50, 42]⟩, ⟨#[50, 47]⟩, ⟨#[47, 109, 111, 100]⟩, ⟨#[64]⟩, ⟨#[33]⟩, ⟨#[97]⟩, ⟨#[97, 33]⟩, ⟨#[101, 109, 105, 116]⟩, ⟨#[107, 101, 121]⟩, ⟨#[112, 117, 115, 104]⟩, ⟨#[112, 111, 112]⟩, ⟨#[105]⟩, ⟨#[46]⟩, ⟨#[110, 111, 112]⟩]
end Go.Proofs.Ythihfgjolioabaa
