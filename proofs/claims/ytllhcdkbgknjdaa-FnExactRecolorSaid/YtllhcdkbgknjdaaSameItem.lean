/-
  laws.eqItem tells that an item is itself.
-/
import Derived.Test.YtllhcdkbgknjdaaLawItemOk
namespace Go.Proofs.Ytllhcdkbgknjdaa
open Go.RowKit Go

set_option maxHeartbeats 2000000 in
theorem eqitem_same (k : Int) (nm : ByteArray) (n : Int) (x : Bool) (r : Int) (w : World) : Calls Try.prog 12 #[itA k nm n x r, itA k nm n x r] w fun e w' => e = .returned (.bool true) ∧ Below w.heap.size w w' := by
  have b1 : (k != k) = false := by simp
  have b2 : (!nm.toList == nm.toList) = false := by simp
  have b3 : (n != n) = false := by simp
  have b5 : (r != r) = false := by simp
  cases x with
  | true =>
    go_enter Try.func12, Try.ntmps12
    go_wp2_with fail
    go_ret
    exact ⟨rfl, by go_grown⟩
  | false =>
    go_enter Try.func12, Try.ntmps12
    go_wp2_with fail
    go_ret
    exact ⟨rfl, by go_grown⟩
end Go.Proofs.Ytllhcdkbgknjdaa
