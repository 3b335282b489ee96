/-
  A list of ops that comes in, opened.
-/
import Derived.Test.YthihfgjolioabaaDoorOpW
import Derived.Test.YthihfgjolioabaaDoorLaw
import Derived.Deep.Slices
namespace Go.Proofs.YthihfgjolioabaaDoor
open Go.ChangeShapes Go.WideShapes Go.ChangeAt Go.RowKit Go

theorem lt_of_cell_p {w : World} {a : Addr} {v : Value} (h : w.cell? a = some v) : a.block < w.heap.size := by
  rcases Nat.lt_or_ge a.block w.heap.size with hl | hl
  · exact hl
  · have e : w.heap[a.block]? = none := Array.getElem?_eq_none hl
    simp [World.cell?, e] at h
theorem wf32o (n : Int) (h : (Lit.int .i32 n).wf = true) : -2147483648 ≤ n ∧ n ≤ 2147483647 := by
  simp [Lit.wf, IntKind.min, IntKind.max, IntKind.signed, IntKind.bits] at h
  omega
theorem wf64o (n : Int) (h : (Lit.int .i64 n).wf = true) : -9223372036854775808 ≤ n ∧ n ≤ 9223372036854775807 := by
  simp [Lit.wf, IntKind.min, IntKind.max, IntKind.signed, IntKind.bits] at h
  omega
/-- A list of ops that comes in. -/
def OpsIn (W : World) (A : Option Addr) (len c : Nat) : Prop :=
  len ≤ 9223372036854775807 ∧ (len ≤ 4611686018427387904 → ∃ xs : List (Int × Int), xs.length = len ∧ (∀ x ∈ xs, (-9223372036854775808 ≤ x.1 ∧ x.1 ≤ 9223372036854775807) ∧ (-2147483648 ≤ x.2 ∧ x.2 ≤ 2147483647)) ∧ RdS W (.slice A len c) xs)
end Go.Proofs.YthihfgjolioabaaDoor
