/-
  laws.FnExactCodeOk answers true at every code.
-/
import Derived.Test.YthihfgjolioabaaDoorCodeOkI
import Derived.Test.YthihfgjolioabaaDoorCodeOkS
import Derived.Test.YthihfgjolioabaaDoorOpenIns
namespace Go.Proofs.YthihfgjolioabaaDoor
open Go.RowKit Go

set_option maxHeartbeats 1000000 in
theorem szI_fit (v : Value) (xs : List (Int × Int)) (hl : xs.length ≤ 1048576) (w : World) (hr : RdIc w v xs) : Calls Tryd.prog 8 #[v, .int .i64 1048576] w fun e w' => e = .returned (.int .i64 (1048576 - (xs.length : Int))) ∧ Below w.heap.size w w' := by
  obtain ⟨A, cap, rfl⟩ := hr.form
  obtain ⟨N, hN⟩ : ∃ N, xs.length = N := ⟨_, rfl⟩
  rw [hN] at hl ⊢
  have hz : ¬ (1048576 - (N : Int)) < 0 := by omega
  have hz2 : (N : Int) ≤ 1048576 := by omega
  clear hr hN
  go_enter Tryd.func8, Tryd.ntmps8
  go_wp2_with fail
  go_ret
  exact ⟨rfl, by go_grown⟩
set_option maxHeartbeats 1000000 in
theorem szI_not (A : Option Addr) (N cap : Nat) (hl : ¬ N ≤ 1048576) (hmx : N ≤ 9223372036854775807) (w : World) : Calls Tryd.prog 8 #[.slice A N cap, .int .i64 1048576] w fun e w' => e = .returned (.int .i64 (-1)) ∧ Below w.heap.size w w' := by
  have hz : (1048576 - (N : Int)) < 0 := by omega
  have hz3 : (1048576 : Int) < (N : Int) := by omega
  have hz2 : (N : Int) ≤ 9223372036854775807 := by omega
  clear hl
  go_enter Tryd.func8, Tryd.ntmps8
  go_wp2_with fail
  go_ret
  exact ⟨rfl, by go_grown⟩
end Go.Proofs.YthihfgjolioabaaDoor
