/-
  The laws' own helpers on items: the copy of one, its size, whether two are alike.
-/
import Derived.Test.YtllhcdkbgknjdaaItemEq
import Derived.Handy
namespace Go.Proofs.Ytllhcdkbgknjdaa
open Go.RowKit Go

set_option maxHeartbeats 2000000 in
theorem toitem_any (k : Int) (nm : ByteArray) (n : Int) (x : Bool) (r : Int) (w : World) : Calls Try.prog 11 #[itA k nm n x r] w fun e w' => e = .returned (itA k nm n x r) ∧ Below w.heap.size w w' := by
  go_enter Try.func11, Try.ntmps11
  go_wp2_with fail
  refine bodyPost_ret (v := itA k nm n x r) (by simp [results, Try.results11, go_sem]) rfl ⟨rfl, ?_⟩
  go_grown
theorem szitem_fit (k : Int) (nm : ByteArray) (n : Int) (x : Bool) (r : Int) (left : Int) (hl : -1 ≤ left ∧ left ≤ 1048576) (hs : (nm.size : Int) ≤ left) (w : World) :
    Calls Try.prog 10 #[itA k nm n x r, .int .i64 left] w fun e w' => e = .returned (.int .i64 (left - (nm.size : Int))) ∧ Below w.heap.size w w' := by
  have h2 : ¬ (left - (nm.size : Int) < 0) := by omega
  go_enter Try.func10, Try.ntmps10
  go_wp2_with fail
  go_ret
  exact ⟨rfl, by go_grown⟩
theorem szitem_no (k : Int) (nm : ByteArray) (n : Int) (x : Bool) (r : Int) (left : Int) (hl : -1 ≤ left ∧ left ≤ 1048576) (hs : left < (nm.size : Int)) (hm : nm.size ≤ 9223372036854775807) (w : World) :
    Calls Try.prog 10 #[itA k nm n x r, .int .i64 left] w fun e w' => e = .returned (.int .i64 (-1)) ∧ Below w.heap.size w w' := by
  have h2 : left - (nm.size : Int) < 0 := by omega
  go_enter Try.func10, Try.ntmps10
  go_wp2_with fail
  go_ret
  exact ⟨rfl, by go_grown⟩
end Go.Proofs.Ytllhcdkbgknjdaa
