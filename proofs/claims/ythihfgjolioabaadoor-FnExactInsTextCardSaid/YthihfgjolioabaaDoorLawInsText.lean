/-
  laws.FnExactInsText answers true at every step.
-/
import Derived.Test.YthihfgjolioabaaDoorInsTextI
import Derived.Test.YthihfgjolioabaaDoorInsTextS
import Derived.Test.YthihfgjolioabaaDoorInsW
namespace Go.Proofs.YthihfgjolioabaaDoor
open Go.RowKit Go

set_option maxRecDepth 100000 in
set_option maxHeartbeats 4000000 in
theorem law_FnExactInsText (x y : Int) (hy0 : -9223372036854775808 ≤ y) (hy1 : y ≤ 9223372036854775807) (w : World) (hp : Lib.TabIs Tryd.prog w "internal/strconv.uint64pow10" .u64 Lib.pow10Tab) (hg : InsW w) : Calls Tryd.prog 3 #[.agg #[.int .i64 x, .int .i64 y]] w fun e w' => e = .returned (.bool true) ∧ Below w.heap.size w w' := by
  obtain ⟨W1, hW1⟩ : ∃ W, W = w.alloc (.cells #[.int .i64 x, .int .i64 y] 23) := ⟨_, rfl⟩
  have b1 : Below w.heap.size w W1 := by rw [hW1]; exact below_alloc1 w _
  have k1 : Blk W1 w.heap.size 23 #[.int .i64 x, .int .i64 y] := by rw [hW1]; exact Blk.new w _ _
  have HW1 := Lib.hid hW1
  have B1 := Lib.hid b1
  have K1 := Lib.hid k1
  have HPW := Lib.hid (fun W (h : Below w.heap.size w W) => tab_below hp h)
  have HSG := Lib.hid (fun W (h : Below w.heap.size w W) => hg.below h)
  have HSP := Lib.hid (fun W => spec_instext x y hy0 hy1 W)
  have HIM := Lib.hid (fun W (h : Below w.heap.size w W) => impl_instext x y hy0 hy1 W (HPW.out W h) (HSG.out W h))
  obtain ⟨R, hR⟩ : ∃ R, insTx (x, y) = R := ⟨_, rfl⟩
  rw [hR] at HSP HIM
  have hRR : (!(R.toList == R.toList)) = false := by simp
  have hRT : (R.toList == R.toList) = true := by simp
  have e0 : W1.cell? ⟨w.heap.size, 0, none⟩ = some (.int .i64 x) := k1.cell 0
  have e1 : W1.cell? ⟨w.heap.size, 1, none⟩ = some (.int .i64 y) := k1.cell 1
  have lz : w.heap.size < W1.heap.size := k1.lt
  clear hW1 b1 k1 hp hg hR hy0 hy1
  go_enter Tryd.func3, Tryd.ntmps3
  go_wp2_with fail
  rw [← HW1.out]
  refine (toins_any x y W1).mono ?_
  rintro e w2 ⟨rfl, hb2⟩
  have B2 := Lib.hid (B1.out.trans (hb2.mono B1.out.size))
  have K2 := Lib.hid (K1.out.below hb2 K1.out.lt)
  clear hb2 B1 K1 e0 e1 lz
  go_wp2_with fail
  refine (HSP.out _).mono ?_
  rintro e w3 ⟨rfl, hb3⟩
  have B3 := Lib.hid (B2.out.trans (hb3.mono B2.out.size))
  have K3 := Lib.hid (K2.out.below hb3 K2.out.lt)
  have e0 : w3.cell? ⟨w.heap.size, 0, none⟩ = some (.int .i64 x) := K3.out.cell 0
  have e1 : w3.cell? ⟨w.heap.size, 1, none⟩ = some (.int .i64 y) := K3.out.cell 1
  have lz : w.heap.size < w3.heap.size := K3.out.lt
  clear hb3 B2 K2 K3
  go_wp2_with fail
  refine (toins_any x y w3).mono ?_
  rintro e w4 ⟨rfl, hb4⟩
  have B4 := Lib.hid (B3.out.trans (hb4.mono B3.out.size))
  clear hb4 B3 e0 e1 lz
  go_wp2_with fail
  refine (HIM.out _ B4.out).mono ?_
  rintro e w5 ⟨rfl, hb5⟩
  have B5 := Lib.hid (B4.out.trans (hb5.mono B4.out.size))
  clear hb5 B4
  go_wp2_with fail
  go_ret
  exact ⟨rfl, B5.out⟩
end Go.Proofs.YthihfgjolioabaaDoor
