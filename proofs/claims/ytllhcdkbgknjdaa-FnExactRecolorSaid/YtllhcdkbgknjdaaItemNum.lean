/-
  The item of a number.
-/
import Derived.Test.YtllhcdkbgknjdaaShape
namespace Go.Proofs.Ytllhcdkbgknjdaa
open Go.RowKit Go

set_option maxHeartbeats 1000000 in
theorem number_item (k n : Int) (hx : Bool) (w : World) : Calls Try.prog 76 #[.agg #[.int .i64 k, .int .i32 n, .bool hx]] w fun e w' => e = .returned (itA k ⟨#[]⟩ n hx 0) ∧ Below w.heap.size w w' := by
  go_enter Try.func76, Try.ntmps76
  go_wp2_with fail
  refine (bare_any k _).mono ?_
  rintro e w1 ⟨rfl, hb⟩
  obtain ⟨k1, k2, hB, hz⟩ := two_boxes hb
  have c0 : w1.cell? ⟨w.heap.size, 1, none⟩ = some (.int .i32 n) := k1.cell 1
  have c1 : w1.cell? ⟨w.heap.size, 2, none⟩ = some (.bool hx) := k1.cell 2
  obtain ⟨d0, d1, d2, d3, d4, f0, f1, f2, f3, f4⟩ := itC_cells (k := 0) (nm := ⟨#[]⟩) (n := 0) (hx := false) (r := 0) k2
  have hz1 : w.heap.size < w1.heap.size := by omega
  have hz2 : w.heap.size + 1 < w1.heap.size := by omega
  have HB := Lib.hid hB
  have K2 := Lib.hid k2
  clear hb hB k1 k2 hz
  go_wp2_with fail
  go_region
  all_goals go_wp2_with fail
  all_goals (refine bodyPost_ret (v := itA k ⟨#[]⟩ n hx 0) (by have k2 := K2.out; simp [results, Try.results76, item_result k2, itC, go_sem]) rfl ⟨rfl, ?_⟩; have hB := HB.out; go_grown)
end Go.Proofs.Ytllhcdkbgknjdaa
