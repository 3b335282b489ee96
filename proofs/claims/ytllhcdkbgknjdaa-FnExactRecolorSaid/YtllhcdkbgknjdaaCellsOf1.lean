/-
  CellsOf of the program: how many cells there are, whatever the tables hold.
-/
import Derived.Test.YtllhcdkbgknjdaaShapeOf
namespace Go.Proofs.Ytllhcdkbgknjdaa
open Go.RowKit Go

theorem it_box {w w' : World} {k n r : Int} {nm : ByteArray} {x : Bool} {t : TypeId} (hB : Below (w.heap.size + 1) (w.alloc (.cells #[.int .i64 k, .string nm, .int .i32 n, .bool x, .int .u32 r] t)) w') :
    w'.cell? ⟨w.heap.size, 0, none⟩ = some (.int .i64 k) ∧ w'.cell? ⟨w.heap.size, 1, none⟩ = some (.string nm) ∧ w'.cell? ⟨w.heap.size, 2, none⟩ = some (.int .i32 n) ∧ w'.cell? ⟨w.heap.size, 3, none⟩ = some (.bool x) ∧ w'.cell? ⟨w.heap.size, 4, none⟩ = some (.int .u32 r) := by
  have h := (Blk.new w t #[.int .i64 k, .string nm, .int .i32 n, .bool x, .int .u32 r]).below hB (by omega)
  exact ⟨h.cell 0, h.cell 1, h.cell 2, h.cell 3, h.cell 4⟩
theorem it_keep {w w1 w2 : World} {k n r : Int} {nm : ByteArray} {x : Bool} {t : TypeId} (h1 : Below (w.heap.size + 1) (w.alloc (.cells #[.int .i64 k, .string nm, .int .i32 n, .bool x, .int .u32 r] t)) w1) (h2 : Below w1.drew.heap.size w1.drew w2) :
    w2.cell? ⟨w.heap.size, 0, none⟩ = some (.int .i64 k) ∧ w2.cell? ⟨w.heap.size, 1, none⟩ = some (.string nm) ∧ w2.cell? ⟨w.heap.size, 2, none⟩ = some (.int .i32 n) ∧ w2.cell? ⟨w.heap.size, 3, none⟩ = some (.bool x) ∧ w2.cell? ⟨w.heap.size, 4, none⟩ = some (.int .u32 r) := by
  have hs : w.heap.size + 1 ≤ w1.heap.size := by have := h1.size; simpa using this
  exact it_box (h1.drew.trans (h2.mono hs))

/-- A list that is empty. -/
theorem new_none {w w' : World} (hB : Below w.heap.size w w') : NewLen w 0 (.returned (.slice none 0 0)) w' := ⟨_, [], rfl, rfl, fun _ hz => absurd hz List.not_mem_nil, World.ownsRow_nil _ _ _ _, hB⟩

end Go.Proofs.Ytllhcdkbgknjdaa
