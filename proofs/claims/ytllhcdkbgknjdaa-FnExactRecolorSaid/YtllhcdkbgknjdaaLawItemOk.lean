/-
  laws.FnExactItemOk answers true at every item.
-/
import Derived.Test.YtllhcdkbgknjdaaSpecCells
import Derived.Test.YtllhcdkbgknjdaaToItem
namespace Go.Proofs.Ytllhcdkbgknjdaa
open Go.RowKit Go

/-- A copy of an item, where its box stands. -/
theorem box_mono {w w1 w2 : World} {o : Obj} (h1 : Below (w.heap.size + 1) (w.alloc o) w1) (h2 : Below w1.heap.size w1 w2) : Below (w.heap.size + 1) (w.alloc o) w2 :=
  h1.trans (h2.mono (by have := h1.size; simpa using this))
theorem box_start (w : World) (o : Obj) : Below (w.heap.size + 1) (w.alloc o) (w.alloc o) := Below.refl _ _
theorem box_below {w w1 : World} {o : Obj} (h : Below (w.heap.size + 1) (w.alloc o) w1) : Below w.heap.size w w1 := ((Below.refl _ _).alloc (Nat.le_refl _) _).trans (h.mono (by omega))

end Go.Proofs.Ytllhcdkbgknjdaa
