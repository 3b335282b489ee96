/-
  CellsOf of the program at a number: how many cells there are, whatever the tables hold.
-/
import Derived.Test.YtllhcdkbgknjdaaCellsOf1
namespace Go.Proofs.Ytllhcdkbgknjdaa
open Go.RowKit Go

set_option maxHeartbeats 2000000 in
theorem cellsof_narrow (k n : Int) (x : Bool) (h : numK k = true) (hn1 : -67108864 ≤ n) (hn2 : n ≤ 67108863) (w : World) (hcs : TabsAny w) :
    Calls Try.prog 9 #[itA k ⟨#[]⟩ n x 0] w (NewLen w 1) := by
  have HS := Lib.hid (fun W => shape_num ⟨k, ⟨#[]⟩, n, x, 0⟩ h W)
  have HC := Lib.hid (fun W (hb : Below w.heap.size w W) => number_narrow k n x (by have := of_decide_eq_true h; omega) (by have := of_decide_eq_true h; omega) hn1 hn2 W (hcs.below hb))
  clear h hcs
  go_enter Try.func9, Try.ntmps9
  go_wp2_with fail
  refine (HS.out _).mono ?_
  rintro e w1 ⟨rfl, hb⟩
  have hb' : Below (w.heap.size + 1) (w.alloc (.cells #[.int .i64 k, .string ⟨#[]⟩, .int .i32 n, .bool x, .int .u32 0] 26)) w1 := hb.mono (by simp)
  have HBX := Lib.hid hb'
  have HB := Lib.hid (((Below.refl w.heap.size w).alloc (Nat.le_refl _) _).trans (hb.mono (by simp)))
  clear hb hb' HS
  go_wp2_with fail
  go_region_held3 (fun w' => w'.cell? ⟨w.heap.size, 0, none⟩ = some (.int .i64 k) ∧ w'.cell? ⟨w.heap.size, 1, none⟩ = some (.string ⟨#[]⟩) ∧ w'.cell? ⟨w.heap.size, 2, none⟩ = some (.int .i32 n) ∧ w'.cell? ⟨w.heap.size, 3, none⟩ = some (.bool x) ∧ w'.cell? ⟨w.heap.size, 4, none⟩ = some (.int .u32 0)) (first | exact it_box HBX.out.drew | go_keep | exact it_keep HBX.out hb2) (first | (go_at_call 76; refine (number_item k n x _).mono ?_; rintro e w2 ⟨rfl, hb2⟩))
  have HB2 := Lib.hid (HB.out.drew.trans (hb2.mono HB.out.size))
  clear hb2
  go_wp2_with fail
  refine (HC.out _ HB2.out).mono ?_
  rintro e w3 ⟨v, zs, rfl, hl, hz, hown, hb3⟩
  have HE := Lib.hid (show NewLen w 1 (.returned v) w3 from ⟨v, zs, rfl, hl, hz, own_base hown HB2.out.size, HB2.out.trans (hb3.mono HB2.out.size)⟩)
  clear hl hz hown hb3
  go_wp2_with fail
  go_ret
  exact HE.out

set_option maxHeartbeats 2000000 in
theorem cellsof_wide (k n : Int) (x : Bool) (h : numK k = true) (hn : n < -67108864 ∨ 67108863 < n) (w : World) (hcs : TabsAny w) :
    Calls Try.prog 9 #[itA k ⟨#[]⟩ n x 0] w (NewLen w 2) := by
  have HS := Lib.hid (fun W => shape_num ⟨k, ⟨#[]⟩, n, x, 0⟩ h W)
  have HC := Lib.hid (fun W (hb : Below w.heap.size w W) => (fun (_ : TabsAny W) => number_wide k n x hn W) (hcs.below hb))
  clear h hcs
  go_enter Try.func9, Try.ntmps9
  go_wp2_with fail
  refine (HS.out _).mono ?_
  rintro e w1 ⟨rfl, hb⟩
  have hb' : Below (w.heap.size + 1) (w.alloc (.cells #[.int .i64 k, .string ⟨#[]⟩, .int .i32 n, .bool x, .int .u32 0] 26)) w1 := hb.mono (by simp)
  have HBX := Lib.hid hb'
  have HB := Lib.hid (((Below.refl w.heap.size w).alloc (Nat.le_refl _) _).trans (hb.mono (by simp)))
  clear hb hb' HS
  go_wp2_with fail
  go_region_held3 (fun w' => w'.cell? ⟨w.heap.size, 0, none⟩ = some (.int .i64 k) ∧ w'.cell? ⟨w.heap.size, 1, none⟩ = some (.string ⟨#[]⟩) ∧ w'.cell? ⟨w.heap.size, 2, none⟩ = some (.int .i32 n) ∧ w'.cell? ⟨w.heap.size, 3, none⟩ = some (.bool x) ∧ w'.cell? ⟨w.heap.size, 4, none⟩ = some (.int .u32 0)) (first | exact it_box HBX.out.drew | go_keep | exact it_keep HBX.out hb2) (first | (go_at_call 76; refine (number_item k n x _).mono ?_; rintro e w2 ⟨rfl, hb2⟩))
  have HB2 := Lib.hid (HB.out.drew.trans (hb2.mono HB.out.size))
  clear hb2
  go_wp2_with fail
  refine (HC.out _ HB2.out).mono ?_
  rintro e w3 ⟨v, zs, rfl, hl, hz, hown, hb3⟩
  have HE := Lib.hid (show NewLen w 2 (.returned v) w3 from ⟨v, zs, rfl, hl, hz, own_base hown HB2.out.size, HB2.out.trans (hb3.mono HB2.out.size)⟩)
  clear hl hz hown hb3
  go_wp2_with fail
  go_ret
  exact HE.out

set_option maxHeartbeats 2000000 in
theorem cellsof_num_no (k : Int) (nm : ByteArray) (n : Int) (x : Bool) (r : Nat) (h : numK k = true) (hne : (⟨k, ⟨#[]⟩, n, x, 0⟩ : It) ≠ ⟨k, nm, n, x, r⟩) (w : World) :
    Calls Try.prog 9 #[itA k nm n x (r : Int)] w (NewLen w 0) := by
  have HS := Lib.hid (fun W => shape_num ⟨k, nm, n, x, r⟩ h W)
  have hq : ∀ W : World, (binOp .neq 26 (itA k ⟨#[]⟩ n x 0) (itA k nm n x (r : Int))).run Try.prog W = .ok (.bool true) W := fun W => by
    have h := item_neq W (⟨k, ⟨#[]⟩, n, x, 0⟩) ⟨k, nm, n, x, r⟩
    rw [decide_eq_false hne] at h
    exact h
  clear hne
  clear h
  go_enter Try.func9, Try.ntmps9
  go_wp2_with fail
  refine (HS.out _).mono ?_
  rintro e w1 ⟨rfl, hb⟩
  have hb' : Below (w.heap.size + 1) (w.alloc (.cells #[.int .i64 k, .string nm, .int .i32 n, .bool x, .int .u32 (r : Int)] 26)) w1 := hb.mono (by simp)
  have HBX := Lib.hid hb'
  have HB := Lib.hid (((Below.refl w.heap.size w).alloc (Nat.le_refl _) _).trans (hb.mono (by simp)))
  clear hb hb' HS
  go_wp2_with fail
  go_region_held3 (fun w' => w'.cell? ⟨w.heap.size, 0, none⟩ = some (.int .i64 k) ∧ w'.cell? ⟨w.heap.size, 1, none⟩ = some (.string nm) ∧ w'.cell? ⟨w.heap.size, 2, none⟩ = some (.int .i32 n) ∧ w'.cell? ⟨w.heap.size, 3, none⟩ = some (.bool x) ∧ w'.cell? ⟨w.heap.size, 4, none⟩ = some (.int .u32 (r : Int))) (first | exact it_box HBX.out.drew | go_keep | exact it_keep HBX.out hb2) (first | (go_at_call 76; refine (number_item k n x _).mono ?_; rintro e w2 ⟨rfl, hb2⟩))
  have HB2 := Lib.hid (HB.out.drew.trans (hb2.mono HB.out.size))
  clear hb2
  go_wp2_with fail
  go_ret
  exact new_none HB2.out

end Go.Proofs.Ytllhcdkbgknjdaa
