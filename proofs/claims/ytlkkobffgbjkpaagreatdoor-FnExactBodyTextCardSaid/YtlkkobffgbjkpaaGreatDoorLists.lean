/-
  What lists of any kind of number have in common.
-/
import Derived.Test.YtlkkobffgbjkpaaGreatDoorToU
import Derived.Deep.Onto
namespace Go.Proofs.YtlkkobffgbjkpaaGreatDoor
open Go.RowKit Go

end Go.Proofs.YtlkkobffgbjkpaaGreatDoor
