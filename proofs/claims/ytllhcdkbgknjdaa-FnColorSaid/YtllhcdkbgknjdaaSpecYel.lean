/-
  The model's CellsOf at a number: how many cells there are.
-/
import Derived.Test.YtllhcdkbgknjdaaSpecWord
import Derived.Test.YtllhcdkbgknjdaaSpecNum
import Derived.Handy
namespace Go.Proofs.Ytllhcdkbgknjdaa
open Go.RowKit Go

set_option maxHeartbeats 1000000 in
theorem sc_n7_NVZE (n : Int) (hn : (n == 0) = false) (x : Bool) (m : Nat) (HN : Hid (∀ W, Calls Try.prog 35 #[.int .i32 n, .bool x, .int .u32 8, .int .u32 2] W (NewLen W m))) (w : World) : Calls Try.prog 29 #[itA 7 ⟨#[]⟩ n x 0] w (NewLen w m) := by
  go_enter Try.func29, Try.ntmps29
  go_wp2_with fail
  refine (HN.out _).mono ?_
  rintro e w3 ⟨v, zs, rfl, hl, hz, hown, hb3⟩
  have HE := Lib.hid (show NewLen w m (.returned v) w3 from ⟨v, zs, rfl, hl, hz, own_base hown (by simp), (((Below.refl w.heap.size w).alloc (Nat.le_refl _) _).trans (hb3.mono (by simp)))⟩)
  clear hl hz hown hb3
  go_wp2_with fail
  go_ret
  exact HE.out

set_option maxHeartbeats 1000000 in
theorem sc_n7_NVNE (n : Int) (hn : (n == 0) = false) (x : Bool) (r : Nat) (hr : ((r : Int) == 0) = false) (w : World) : Calls Try.prog 29 #[itA 7 ⟨#[]⟩ n x (r : Int)] w (NewLen w 0) := by
  go_enter Try.func29, Try.ntmps29
  go_wp2_with fail
  go_ret
  exact new_emp (by simp) (by go_grown)

set_option maxHeartbeats 1000000 in
theorem sc_n7_NVVN (nm : ByteArray) (hnm : nm.toList.isEmpty = false) (n : Int) (hn : (n == 0) = false) (x : Bool) (r : Nat) (w : World) : Calls Try.prog 29 #[itA 7 nm n x (r : Int)] w (NewLen w 0) := by
  go_enter Try.func29, Try.ntmps29
  go_wp2_with fail
  go_ret
  exact new_emp (by simp) (by go_grown)

set_option maxHeartbeats 1000000 in
theorem sc_n7_ZTZE (m : Nat) (HN : Hid (∀ W, Calls Try.prog 35 #[.int .i32 0, .bool true, .int .u32 8, .int .u32 2] W (NewLen W m))) (w : World) : Calls Try.prog 29 #[itA 7 ⟨#[]⟩ 0 true 0] w (NewLen w m) := by
  go_enter Try.func29, Try.ntmps29
  go_wp2_with fail
  refine (HN.out _).mono ?_
  rintro e w3 ⟨v, zs, rfl, hl, hz, hown, hb3⟩
  have HE := Lib.hid (show NewLen w m (.returned v) w3 from ⟨v, zs, rfl, hl, hz, own_base hown (by simp), (((Below.refl w.heap.size w).alloc (Nat.le_refl _) _).trans (hb3.mono (by simp)))⟩)
  clear hl hz hown hb3
  go_wp2_with fail
  go_ret
  exact HE.out

set_option maxHeartbeats 1000000 in
theorem sc_n7_ZTNE (r : Nat) (hr : ((r : Int) == 0) = false) (w : World) : Calls Try.prog 29 #[itA 7 ⟨#[]⟩ 0 true (r : Int)] w (NewLen w 0) := by
  go_enter Try.func29, Try.ntmps29
  go_wp2_with fail
  go_ret
  exact new_emp (by simp) (by go_grown)

set_option maxHeartbeats 1000000 in
theorem sc_n7_ZTVN (nm : ByteArray) (hnm : nm.toList.isEmpty = false) (r : Nat) (w : World) : Calls Try.prog 29 #[itA 7 nm 0 true (r : Int)] w (NewLen w 0) := by
  go_enter Try.func29, Try.ntmps29
  go_wp2_with fail
  go_ret
  exact new_emp (by simp) (by go_grown)

set_option maxHeartbeats 1000000 in
theorem sc_n7_ZFNE (r : Nat) (hr : ((r : Int) == 0) = false) (w : World) : Calls Try.prog 29 #[itA 7 ⟨#[]⟩ 0 false (r : Int)] w (NewLen w 0) := by
  go_enter Try.func29, Try.ntmps29
  go_wp2_with fail
  go_ret
  exact new_emp (by simp) (by go_grown)

set_option maxHeartbeats 1000000 in
theorem sc_n7_ZFNN (nm : ByteArray) (hnm : nm.toList.isEmpty = false) (r : Nat) (hr : ((r : Int) == 0) = false) (w : World) : Calls Try.prog 29 #[itA 7 nm 0 false (r : Int)] w (NewLen w 0) := by
  go_enter Try.func29, Try.ntmps29
  go_wp2_with fail
  go_ret
  exact new_emp (by simp) (by go_grown)

set_option maxHeartbeats 1000000 in
theorem sc_n7_ZFZE (m : Nat) (HN : Hid (∀ W, Calls Try.prog 35 #[.int .i32 0, .bool false, .int .u32 8, .int .u32 2] W (NewLen W m))) (w : World) : Calls Try.prog 29 #[itA 7 ⟨#[]⟩ 0 false 0] w (NewLen w m) := by
  go_enter Try.func29, Try.ntmps29
  go_wp2_with fail
  refine (HN.out _).mono ?_
  rintro e w3 ⟨v, zs, rfl, hl, hz, hown, hb3⟩
  have HE := Lib.hid (show NewLen w m (.returned v) w3 from ⟨v, zs, rfl, hl, hz, own_base hown (by simp), (((Below.refl w.heap.size w).alloc (Nat.le_refl _) _).trans (hb3.mono (by simp)))⟩)
  clear hl hz hown hb3
  go_wp2_with fail
  go_ret
  exact HE.out

set_option maxHeartbeats 1000000 in
theorem sc_n7_ZFZN (nm : ByteArray) (hnm : nm.toList.isEmpty = false) (w : World) : Calls Try.prog 29 #[itA 7 nm 0 false 0] w (NewLen w 0) := by
  go_enter Try.func29, Try.ntmps29
  go_wp2_with fail
  go_ret
  exact new_emp (by simp) (by go_grown)

end Go.Proofs.Ytllhcdkbgknjdaa
