/-
  spec.InsText, the kind 0.
-/
import Derived.Test.YthihfgjolioabaaDoorInsMath
import Derived.Test.YthihfgjolioabaaDoorInsTextI
import Derived.Test.YthihfgjolioabaaDoorDecWalk
import Derived.Test.YthihfgjolioabaaDoorIn
import Derived.Test.YthihfgjolioabaaDoorBlk
import Derived.Handy
import Derived.IntWalk
import Derived.RegionTactic
import Derived.Deep.RegionWith
namespace Go.Proofs.YthihfgjolioabaaDoor
open Go.RowKit Go

set_option maxRecDepth 100000 in
set_option maxHeartbeats 8000000 in
theorem spec_instext_0 (n : Int) (hn0 : -9223372036854775808 ≤ n) (hn1 : n ≤ 9223372036854775807) (w : World) : Calls Tryd.prog 5 #[.agg #[.int .i64 0, .int .i64 n]] w fun e w' => e = .returned (.string (insTx (0, n))) ∧ Below w.heap.size w w' := by
  have BX : Hid (Below w.heap.size w (w.alloc (.cells #[.int .i64 0, .int .i64 n] 25))) := Lib.hid (below_alloc1 w _)
  have HD := Lib.hid (fun W => spec_dectext n hn0 hn1 W)
  have HDS := dec_size hn0 hn1
  have HI := Lib.hid (fun W => in_any 0 0 7 W)
  rw [inB_true (by decide) (by decide)] at HI
  rw [insTx_word (s := ⟨#[108, 105, 116, 32]⟩) (by omega) rfl]
  have HBW := Lib.hid (fun o => BX.out.alloc BX.out.size o)
  obtain ⟨d, hd⟩ : ∃ d : ByteArray, ⟨(Lib.itoa n).toArray⟩ = d := ⟨_, rfl⟩
  rw [hd] at HD HDS ⊢
  have hcc : ¬ 9223372036854775807 < 4 + d.size := by omega
  clear hd
  go_enter Tryd.func5, Tryd.ntmps5
  go_wp2_with fail
  refine (HI.out _).mono ?_
  rintro e w2 ⟨rfl, rfl⟩
  go_wp2_with fail
  go_region_with (go_at_call 15; refine (HD.out _).mono ?_; rintro e w3 ⟨rfl, rfl⟩)
  all_goals
    go_wp2_with fail
    go_ret
    exact ⟨rfl, (HBW.out _).drew⟩
set_option maxRecDepth 100000 in
set_option maxHeartbeats 8000000 in
theorem spec_instext_2 (n : Int) (hn0 : -9223372036854775808 ≤ n) (hn1 : n ≤ 9223372036854775807) (w : World) : Calls Tryd.prog 5 #[.agg #[.int .i64 2, .int .i64 n]] w fun e w' => e = .returned (.string (insTx (2, n))) ∧ Below w.heap.size w w' := by
  have BX : Hid (Below w.heap.size w (w.alloc (.cells #[.int .i64 2, .int .i64 n] 25))) := Lib.hid (below_alloc1 w _)
  have HD := Lib.hid (fun W => spec_dectext n hn0 hn1 W)
  have HDS := dec_size hn0 hn1
  have HI := Lib.hid (fun W => in_any 2 0 7 W)
  rw [inB_true (by decide) (by decide)] at HI
  rw [insTx_word (s := ⟨#[99, 97, 108, 108, 32]⟩) (by omega) rfl]
  have HBW := Lib.hid (fun o => BX.out.alloc BX.out.size o)
  obtain ⟨d, hd⟩ : ∃ d : ByteArray, ⟨(Lib.itoa n).toArray⟩ = d := ⟨_, rfl⟩
  rw [hd] at HD HDS ⊢
  have hcc : ¬ 9223372036854775807 < 5 + d.size := by omega
  clear hd
  go_enter Tryd.func5, Tryd.ntmps5
  go_wp2_with fail
  refine (HI.out _).mono ?_
  rintro e w2 ⟨rfl, rfl⟩
  go_wp2_with fail
  go_region_with (go_at_call 15; refine (HD.out _).mono ?_; rintro e w3 ⟨rfl, rfl⟩)
  all_goals
    go_wp2_with fail
    go_ret
    exact ⟨rfl, (HBW.out _).drew⟩
set_option maxRecDepth 100000 in
set_option maxHeartbeats 8000000 in
theorem spec_instext_3 (n : Int) (hn0 : -9223372036854775808 ≤ n) (hn1 : n ≤ 9223372036854775807) (w : World) : Calls Tryd.prog 5 #[.agg #[.int .i64 3, .int .i64 n]] w fun e w' => e = .returned (.string (insTx (3, n))) ∧ Below w.heap.size w w' := by
  have BX : Hid (Below w.heap.size w (w.alloc (.cells #[.int .i64 3, .int .i64 n] 25))) := Lib.hid (below_alloc1 w _)
  have HD := Lib.hid (fun W => spec_dectext n hn0 hn1 W)
  have HDS := dec_size hn0 hn1
  have HI := Lib.hid (fun W => in_any 3 0 7 W)
  rw [inB_true (by decide) (by decide)] at HI
  rw [insTx_word (s := ⟨#[106, 117, 109, 112, 32]⟩) (by omega) rfl]
  have HBW := Lib.hid (fun o => BX.out.alloc BX.out.size o)
  obtain ⟨d, hd⟩ : ∃ d : ByteArray, ⟨(Lib.itoa n).toArray⟩ = d := ⟨_, rfl⟩
  rw [hd] at HD HDS ⊢
  have hcc : ¬ 9223372036854775807 < 5 + d.size := by omega
  clear hd
  go_enter Tryd.func5, Tryd.ntmps5
  go_wp2_with fail
  refine (HI.out _).mono ?_
  rintro e w2 ⟨rfl, rfl⟩
  go_wp2_with fail
  go_region_with (go_at_call 15; refine (HD.out _).mono ?_; rintro e w3 ⟨rfl, rfl⟩)
  all_goals
    go_wp2_with fail
    go_ret
    exact ⟨rfl, (HBW.out _).drew⟩
end Go.Proofs.YthihfgjolioabaaDoor
