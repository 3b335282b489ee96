/-
  The model's CellsOf at a raw cell: how many cells there are.
-/
import Derived.Test.YtllhcdkbgknjdaaSpecWord
import Derived.Test.YtllhcdkbgknjdaaSpecNum
import Derived.Handy
namespace Go.Proofs.Ytllhcdkbgknjdaa
open Go.RowKit Go

set_option maxHeartbeats 1000000 in
theorem sc_raw_NVVE (n : Int) (hn : (n == 0) = false) (x : Bool) (r : Nat) (w : World) : Calls Try.prog 29 #[itA 0 ⟨#[]⟩ n x (r : Int)] w (NewLen w 0) := by
  go_enter Try.func29, Try.ntmps29
  go_wp2_with fail
  go_ret
  exact new_emp (by simp) (by go_grown)

set_option maxHeartbeats 1000000 in
theorem sc_raw_NVVN (nm : ByteArray) (hnm : nm.toList.isEmpty = false) (n : Int) (hn : (n == 0) = false) (x : Bool) (r : Nat) (w : World) : Calls Try.prog 29 #[itA 0 nm n x (r : Int)] w (NewLen w 0) := by
  go_enter Try.func29, Try.ntmps29
  go_wp2_with fail
  go_ret
  exact new_emp (by simp) (by go_grown)

set_option maxHeartbeats 1000000 in
theorem sc_raw_ZTVE (r : Nat) (w : World) : Calls Try.prog 29 #[itA 0 ⟨#[]⟩ 0 true (r : Int)] w (NewLen w 0) := by
  go_enter Try.func29, Try.ntmps29
  go_wp2_with fail
  go_ret
  exact new_emp (by simp) (by go_grown)

set_option maxHeartbeats 1000000 in
theorem sc_raw_ZTVN (nm : ByteArray) (hnm : nm.toList.isEmpty = false) (r : Nat) (w : World) : Calls Try.prog 29 #[itA 0 nm 0 true (r : Int)] w (NewLen w 0) := by
  go_enter Try.func29, Try.ntmps29
  go_wp2_with fail
  go_ret
  exact new_emp (by simp) (by go_grown)

set_option maxHeartbeats 1000000 in
theorem sc_raw_ZFNE (r : Nat) (hr : ((r : Int) == 0) = false) (hr2 : r < 4294967296) (w : World) : Calls Try.prog 29 #[itA 0 ⟨#[]⟩ 0 false (r : Int)] w (NewLen w 1) := by
  have HR := Lib.hid hr2
  clear hr2
  go_enter Try.func29, Try.ntmps29
  go_wp2_with fail
  go_ret
  exact new_one (by simp) ⟨r, rfl, HR.out⟩ (by go_grown)

set_option maxHeartbeats 1000000 in
theorem sc_raw_ZFNN (nm : ByteArray) (hnm : nm.toList.isEmpty = false) (r : Nat) (hr : ((r : Int) == 0) = false) (w : World) : Calls Try.prog 29 #[itA 0 nm 0 false (r : Int)] w (NewLen w 0) := by
  go_enter Try.func29, Try.ntmps29
  go_wp2_with fail
  go_ret
  exact new_emp (by simp) (by go_grown)

set_option maxHeartbeats 1000000 in
theorem sc_raw_ZFZE  (w : World) : Calls Try.prog 29 #[itA 0 ⟨#[]⟩ 0 false 0] w (NewLen w 1) := by
  go_enter Try.func29, Try.ntmps29
  go_wp2_with fail
  go_ret
  exact new_one (by simp) ⟨0, rfl, by omega⟩ (by go_grown)

set_option maxHeartbeats 1000000 in
theorem sc_raw_ZFZN (nm : ByteArray) (hnm : nm.toList.isEmpty = false) (w : World) : Calls Try.prog 29 #[itA 0 nm 0 false 0] w (NewLen w 0) := by
  go_enter Try.func29, Try.ntmps29
  go_wp2_with fail
  go_ret
  exact new_emp (by simp) (by go_grown)

end Go.Proofs.Ytllhcdkbgknjdaa
