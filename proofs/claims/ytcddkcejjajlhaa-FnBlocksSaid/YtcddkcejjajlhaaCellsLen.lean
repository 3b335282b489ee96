/-
  How many cells an item has at most (cut out of the templates of chapters 2 to 4).
-/
import Derived.Test.YtcddkcejjajlhaaKit
import Derived.Test.YtcddkcejjajlhaaLaw
import Derived.Test.YtcddkcejjajlhaaBlk
import Derived.Test.YtcddkcejjajlhaaIn
import Derived.Test.YtcddkcejjajlhaaOwn
import Derived.Test.YtcddkcejjajlhaaU32
import Derived.Test.YtcddkcejjajlhaaToU
import Derived.Test.YtcddkcejjajlhaaSpecCut
import Derived.Test.YtcddkcejjajlhaaDrawCut
namespace Go.Proofs.Ytcddkcejjajlhaa
open Go

theorem varCells_len (l : List Nat) (n : Int) : (varCells l n).length ≤ 2 := by
  match l with
  | [] => exact Nat.zero_le _
  | [f] => exact Nat.le_refl _
  | _ :: _ :: _ => exact Nat.zero_le _
theorem numCells_len (n : Int) (h : Bool) (s l : Nat) : (numCells n h s l).length ≤ 2 := by unfold numCells; split <;> simp
theorem cellsOf_len (it : It) : (cellsOf it).length ≤ 24 := by
  unfold cellsOf
  have h1 := varCells_len (packs it.name.data.toList) it.n
  have h2 := numCells_len it.n it.hex (shortOf it.kind) (longOf it.kind)
  have h3 := wordCells_len (tagW it.kind) (packs it.name.data.toList)
  have h4 := (packs_len it.name.data.toList).2
  (repeat' split) <;> simp_all <;> omega
end Go.Proofs.Ytcddkcejjajlhaa

