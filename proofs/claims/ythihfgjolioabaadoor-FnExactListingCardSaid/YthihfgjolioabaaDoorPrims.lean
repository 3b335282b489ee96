/-
  The table of the built-in words.
-/
import Derived.Test.YthihfgjolioabaaDoorKit
import Derived.Test.YthihfgjolioabaaDoorAppend
import Derived.Handy
import Derived.Laws.Tables
import Derived.Deep.WholeRow
namespace Go.Proofs.YthihfgjolioabaaDoor
open Go.RowKit Go

/-- The names of the built-in words. -/
def primNames : List ByteArray := [⟨#[100, 117, 112]⟩, ⟨#[100, 114, 111, 112]⟩, ⟨#[111, 118, 101, 114]⟩, ⟨#[110, 105, 112]⟩, ⟨#[115, 119, 97, 112]⟩, ⟨#[43]⟩, ⟨#[45]⟩, ⟨#[42]⟩, ⟨#[97, 110, 100]⟩, ⟨#[111, 114]⟩, ⟨#[50, 42]⟩, ⟨#[50, 47]⟩, ⟨#[47, 109, 111, 100]⟩, ⟨#[64]⟩, ⟨#[33]⟩, ⟨#[97]⟩, ⟨#[97, 33]⟩, ⟨#[101, 109, 105, 116]⟩, ⟨#[107, 101, 121]⟩, ⟨#[112, 117, 115, 104]⟩, ⟨#[112, 111, 112]⟩, ⟨#[105]⟩, ⟨#[46]⟩, ⟨#[110, 111, 112]⟩]
/-- The table's cells: for each word its name, how many numbers it takes, its function. -/
def primCells : Array Value := #[.string ⟨#[100, 117, 112]⟩, .int .i64 1, .func (.func 33) #[] #[], .string ⟨#[100, 114, 111, 112]⟩, .int .i64 1, .func (.func 34) #[] #[], .string ⟨#[111, 118, 101, 114]⟩, .int .i64 2, .func (.func 35) #[] #[], .string ⟨#[110, 105, 112]⟩, .int .i64 2, .func (.func 36) #[] #[], .string ⟨#[115, 119, 97, 112]⟩, .int .i64 2, .func (.func 37) #[] #[], .string ⟨#[43]⟩, .int .i64 2, .func (.func 38) #[] #[], .string ⟨#[45]⟩, .int .i64 1, .func (.func 39) #[] #[], .string ⟨#[42]⟩, .int .i64 2, .func (.func 40) #[] #[], .string ⟨#[97, 110, 100]⟩, .int .i64 2, .func (.func 41) #[] #[], .string ⟨#[111, 114]⟩, .int .i64 2, .func (.func 42) #[] #[], .string ⟨#[50, 42]⟩, .int .i64 1, .func (.func 43) #[] #[], .string ⟨#[50, 47]⟩, .int .i64 1, .func (.func 44) #[] #[], .string ⟨#[47, 109, 111, 100]⟩, .int .i64 2, .func (.func 45) #[] #[], .string ⟨#[64]⟩, .int .i64 1, .func (.func 46) #[] #[], .string ⟨#[33]⟩, .int .i64 2, .func (.func 47) #[] #[], .string ⟨#[97]⟩, .int .i64 0, .func (.func 48) #[] #[], .string ⟨#[97, 33]⟩, .int .i64 1, .func (.func 49) #[] #[], .string ⟨#[101, 109, 105, 116]⟩, .int .i64 1, .func (.func 50) #[] #[], .string ⟨#[107, 101, 121]⟩, .int .i64 0, .func (.func 51) #[] #[], .string ⟨#[112, 117, 115, 104]⟩, .int .i64 1, .func (.func 52) #[] #[], .string ⟨#[112, 111, 112]⟩, .int .i64 0, .func (.func 53) #[] #[], .string ⟨#[105]⟩, .int .i64 0, .func (.func 54) #[] #[], .string ⟨#[46]⟩, .int .i64 1, .func (.func 55) #[] #[], .string ⟨#[110, 111, 112]⟩, .int .i64 0, .func (.func 56) #[] #[]]
theorem primCells_info : (Tryd.prog.info? 49).map (·.size) = some primCells.size := by kernel_rfl
theorem primCells_one : primCells.all (·.oneCell') = true := by kernel_rfl
theorem prim_u : Tryd.prog.underlying 49 = some (.array 24 48) := by kernel_rfl
set_option maxRecDepth 100000 in
set_option maxHeartbeats 4000000 in
theorem builtins_any (w : World) : Calls Tryd.prog 27 #[] w fun e w' => e = .returned (.agg primCells) ∧ Below w.heap.size w w' := by
  go_enter Tryd.func27, Tryd.ntmps27
  go_wp2_with (with_reducible refine wpList_build rfl 49 _ rfl (by kernel_rfl) ?_; refine wpList_store_row rfl 49 _ _ rfl w.heap.size primCells rfl (by kernel_rfl) 49 _ (heap_alloc_last w _) primCells_info (by kernel_rfl) primCells_one ?_; refine unstop ?_)
  refine Stop.go ?_
  rw [World.setRow_alloc_new]
  go_wp2_with fail
  exact bodyPost_ret (v := .agg primCells) (results_cell_row rfl _ _ w.heap.size 49 primCells (0, 0) _ rfl (heap_alloc_last w _) prim_u rfl primCells_info) rfl ⟨rfl, (Below.refl _ _).alloc (Nat.le_refl _) _⟩
/-- What stands in the table at a word's number. -/
def primCell (k : Nat) : Array Value := #[primCells.getD (3 * k) (.int .i64 0), primCells.getD (3 * k + 1) (.int .i64 0), primCells.getD (3 * k + 2) (.int .i64 0)]
theorem prim_index_0 (W : World) : (Instr.index 49 (.agg primCells) (.int .i64 0)).run Tryd.prog W = .ok (.agg (primCell 0)) W := by kernel_rfl
theorem prim_index_1 (W : World) : (Instr.index 49 (.agg primCells) (.int .i64 1)).run Tryd.prog W = .ok (.agg (primCell 1)) W := by kernel_rfl
theorem prim_index_2 (W : World) : (Instr.index 49 (.agg primCells) (.int .i64 2)).run Tryd.prog W = .ok (.agg (primCell 2)) W := by kernel_rfl
theorem prim_index_3 (W : World) : (Instr.index 49 (.agg primCells) (.int .i64 3)).run Tryd.prog W = .ok (.agg (primCell 3)) W := by kernel_rfl
theorem prim_index_4 (W : World) : (Instr.index 49 (.agg primCells) (.int .i64 4)).run Tryd.prog W = .ok (.agg (primCell 4)) W := by kernel_rfl
theorem prim_index_5 (W : World) : (Instr.index 49 (.agg primCells) (.int .i64 5)).run Tryd.prog W = .ok (.agg (primCell 5)) W := by kernel_rfl
theorem prim_index_6 (W : World) : (Instr.index 49 (.agg primCells) (.int .i64 6)).run Tryd.prog W = .ok (.agg (primCell 6)) W := by kernel_rfl
theorem prim_index_7 (W : World) : (Instr.index 49 (.agg primCells) (.int .i64 7)).run Tryd.prog W = .ok (.agg (primCell 7)) W := by kernel_rfl
theorem prim_index_8 (W : World) : (Instr.index 49 (.agg primCells) (.int .i64 8)).run Tryd.prog W = .ok (.agg (primCell 8)) W := by kernel_rfl
theorem prim_index_9 (W : World) : (Instr.index 49 (.agg primCells) (.int .i64 9)).run Tryd.prog W = .ok (.agg (primCell 9)) W := by kernel_rfl
theorem prim_index_10 (W : World) : (Instr.index 49 (.agg primCells) (.int .i64 10)).run Tryd.prog W = .ok (.agg (primCell 10)) W := by kernel_rfl
theorem prim_index_11 (W : World) : (Instr.index 49 (.agg primCells) (.int .i64 11)).run Tryd.prog W = .ok (.agg (primCell 11)) W := by kernel_rfl
theorem prim_index_12 (W : World) : (Instr.index 49 (.agg primCells) (.int .i64 12)).run Tryd.prog W = .ok (.agg (primCell 12)) W := by kernel_rfl
theorem prim_index_13 (W : World) : (Instr.index 49 (.agg primCells) (.int .i64 13)).run Tryd.prog W = .ok (.agg (primCell 13)) W := by kernel_rfl
theorem prim_index_14 (W : World) : (Instr.index 49 (.agg primCells) (.int .i64 14)).run Tryd.prog W = .ok (.agg (primCell 14)) W := by kernel_rfl
theorem prim_index_15 (W : World) : (Instr.index 49 (.agg primCells) (.int .i64 15)).run Tryd.prog W = .ok (.agg (primCell 15)) W := by kernel_rfl
theorem prim_index_16 (W : World) : (Instr.index 49 (.agg primCells) (.int .i64 16)).run Tryd.prog W = .ok (.agg (primCell 16)) W := by kernel_rfl
theorem prim_index_17 (W : World) : (Instr.index 49 (.agg primCells) (.int .i64 17)).run Tryd.prog W = .ok (.agg (primCell 17)) W := by kernel_rfl
theorem prim_index_18 (W : World) : (Instr.index 49 (.agg primCells) (.int .i64 18)).run Tryd.prog W = .ok (.agg (primCell 18)) W := by kernel_rfl
theorem prim_index_19 (W : World) : (Instr.index 49 (.agg primCells) (.int .i64 19)).run Tryd.prog W = .ok (.agg (primCell 19)) W := by kernel_rfl
theorem prim_index_20 (W : World) : (Instr.index 49 (.agg primCells) (.int .i64 20)).run Tryd.prog W = .ok (.agg (primCell 20)) W := by kernel_rfl
theorem prim_index_21 (W : World) : (Instr.index 49 (.agg primCells) (.int .i64 21)).run Tryd.prog W = .ok (.agg (primCell 21)) W := by kernel_rfl
theorem prim_index_22 (W : World) : (Instr.index 49 (.agg primCells) (.int .i64 22)).run Tryd.prog W = .ok (.agg (primCell 22)) W := by kernel_rfl
theorem prim_index_23 (W : World) : (Instr.index 49 (.agg primCells) (.int .i64 23)).run Tryd.prog W = .ok (.agg (primCell 23)) W := by kernel_rfl
theorem prim_index (k : Nat) (hk : k < 24) (W : World) : (Instr.index 49 (.agg primCells) (.int .i64 (k : Int))).run Tryd.prog W = .ok (.agg (primCell k)) W := by
  match k, hk with
  | 0, _ => exact prim_index_0 W
  | 1, _ => exact prim_index_1 W
  | 2, _ => exact prim_index_2 W
  | 3, _ => exact prim_index_3 W
  | 4, _ => exact prim_index_4 W
  | 5, _ => exact prim_index_5 W
  | 6, _ => exact prim_index_6 W
  | 7, _ => exact prim_index_7 W
  | 8, _ => exact prim_index_8 W
  | 9, _ => exact prim_index_9 W
  | 10, _ => exact prim_index_10 W
  | 11, _ => exact prim_index_11 W
  | 12, _ => exact prim_index_12 W
  | 13, _ => exact prim_index_13 W
  | 14, _ => exact prim_index_14 W
  | 15, _ => exact prim_index_15 W
  | 16, _ => exact prim_index_16 W
  | 17, _ => exact prim_index_17 W
  | 18, _ => exact prim_index_18 W
  | 19, _ => exact prim_index_19 W
  | 20, _ => exact prim_index_20 W
  | 21, _ => exact prim_index_21 W
  | 22, _ => exact prim_index_22 W
  | 23, _ => exact prim_index_23 W
  | k + 24, h => omega
theorem prim_name (k : Nat) (hk : k < 24) : ∃ t f, primCell k = #[.string (primNames.getD k ⟨#[]⟩), .int .i64 t, f] := by
  match k, hk with
  | 0, _ => exact ⟨_, _, rfl⟩
  | 1, _ => exact ⟨_, _, rfl⟩
  | 2, _ => exact ⟨_, _, rfl⟩
  | 3, _ => exact ⟨_, _, rfl⟩
  | 4, _ => exact ⟨_, _, rfl⟩
  | 5, _ => exact ⟨_, _, rfl⟩
  | 6, _ => exact ⟨_, _, rfl⟩
  | 7, _ => exact ⟨_, _, rfl⟩
  | 8, _ => exact ⟨_, _, rfl⟩
  | 9, _ => exact ⟨_, _, rfl⟩
  | 10, _ => exact ⟨_, _, rfl⟩
  | 11, _ => exact ⟨_, _, rfl⟩
  | 12, _ => exact ⟨_, _, rfl⟩
  | 13, _ => exact ⟨_, _, rfl⟩
  | 14, _ => exact ⟨_, _, rfl⟩
  | 15, _ => exact ⟨_, _, rfl⟩
  | 16, _ => exact ⟨_, _, rfl⟩
  | 17, _ => exact ⟨_, _, rfl⟩
  | 18, _ => exact ⟨_, _, rfl⟩
  | 19, _ => exact ⟨_, _, rfl⟩
  | 20, _ => exact ⟨_, _, rfl⟩
  | 21, _ => exact ⟨_, _, rfl⟩
  | 22, _ => exact ⟨_, _, rfl⟩
  | 23, _ => exact ⟨_, _, rfl⟩
  | k + 24, h => omega
end Go.Proofs.YthihfgjolioabaaDoor
