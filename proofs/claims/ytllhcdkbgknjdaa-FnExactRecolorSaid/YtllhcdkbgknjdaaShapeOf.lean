/-
  The shape of an item, by its kind.
-/
import Derived.Test.YtllhcdkbgknjdaaItemEq
namespace Go.Proofs.Ytllhcdkbgknjdaa
open Go.RowKit Go

set_option maxHeartbeats 1000000 in
theorem shape_word (it : It) (h : wordK it.kind = true) (w : World) : Calls Try.prog 21 #[itVal it] w fun e w' => e = .returned (.iface 62 (.agg #[.int .i64 it.kind, .string it.name])) ∧ Below w.heap.size w w' := by
  have HW : Hid (∀ W, Calls Try.prog 26 #[.int .i64 it.kind] W fun e w' => e = .returned (.bool true) ∧ W = w') := Lib.hid fun W => by rw [← h]; exact isword_any _ W
  obtain ⟨k, nm, n, x, r⟩ := it
  clear h
  go_enter Try.func21, Try.ntmps21
  go_wp2_with fail
  refine (HW.out _).mono ?_
  rintro e w' ⟨rfl, rfl⟩
  go_wp2_with fail
  go_ret
  exact ⟨rfl, by go_grown⟩
set_option maxHeartbeats 1000000 in
theorem shape_num (it : It) (h : numK it.kind = true) (w : World) : Calls Try.prog 21 #[itVal it] w fun e w' => e = .returned (.iface 64 (.agg #[.int .i64 it.kind, .int .i32 it.n, .bool it.hex])) ∧ Below w.heap.size w w' := by
  have h2 : wordK it.kind = false := by have := of_decide_eq_true h; exact decide_eq_false (by omega)
  have HW : Hid (∀ W, Calls Try.prog 26 #[.int .i64 it.kind] W fun e w' => e = .returned (.bool false) ∧ W = w') := Lib.hid fun W => by rw [← h2]; exact isword_any _ W
  have HN : Hid (∀ W, Calls Try.prog 27 #[.int .i64 it.kind] W fun e w' => e = .returned (.bool true) ∧ W = w') := Lib.hid fun W => by rw [← h]; exact isnumber_any _ W
  obtain ⟨k, nm, n, x, r⟩ := it
  clear h h2
  go_enter Try.func21, Try.ntmps21
  go_wp2_with fail
  refine (HW.out _).mono ?_
  rintro e w' ⟨rfl, rfl⟩
  go_wp2_with fail
  refine (HN.out _).mono ?_
  rintro e w' ⟨rfl, rfl⟩
  go_wp2_with fail
  go_ret
  exact ⟨rfl, by go_grown⟩
set_option maxHeartbeats 1000000 in
theorem shape_var (it : It) (h : it.kind = 9) (w : World) : Calls Try.prog 21 #[itVal it] w fun e w' => e = .returned (.iface 66 (.agg #[.int .i64 it.kind, .string it.name, .int .i32 it.n])) ∧ Below w.heap.size w w' := by
  have h2 : wordK it.kind = false := decide_eq_false (by omega)
  have h3 : numK it.kind = false := decide_eq_false (by omega)
  have HW : Hid (∀ W, Calls Try.prog 26 #[.int .i64 it.kind] W fun e w' => e = .returned (.bool false) ∧ W = w') := Lib.hid fun W => by rw [← h2]; exact isword_any _ W
  have HN : Hid (∀ W, Calls Try.prog 27 #[.int .i64 it.kind] W fun e w' => e = .returned (.bool false) ∧ W = w') := Lib.hid fun W => by rw [← h3]; exact isnumber_any _ W
  obtain ⟨k, nm, n, x, r⟩ := it
  have b9 : (k == 9) = true := by simpa using h
  clear h h2 h3
  go_enter Try.func21, Try.ntmps21
  go_wp2_with fail
  refine (HW.out _).mono ?_
  rintro e w' ⟨rfl, rfl⟩
  go_wp2_with fail
  refine (HN.out _).mono ?_
  rintro e w' ⟨rfl, rfl⟩
  go_wp2_with fail
  go_ret
  exact ⟨rfl, by go_grown⟩
set_option maxHeartbeats 1000000 in
theorem shape_raw (it : It) (h1 : ¬ (1 ≤ it.kind ∧ it.kind ≤ 9)) (w : World) : Calls Try.prog 21 #[itVal it] w fun e w' => e = .returned (.iface 68 (.agg #[.int .i64 0, .int .u32 (it.raw : Int)])) ∧ Below w.heap.size w w' := by
  have h2 : wordK it.kind = false := decide_eq_false (by omega)
  have h3 : numK it.kind = false := decide_eq_false (by omega)
  have HW : Hid (∀ W, Calls Try.prog 26 #[.int .i64 it.kind] W fun e w' => e = .returned (.bool false) ∧ W = w') := Lib.hid fun W => by rw [← h2]; exact isword_any _ W
  have HN : Hid (∀ W, Calls Try.prog 27 #[.int .i64 it.kind] W fun e w' => e = .returned (.bool false) ∧ W = w') := Lib.hid fun W => by rw [← h3]; exact isnumber_any _ W
  have b9 : (it.kind == 9) = false := by simp; omega
  obtain ⟨k, nm, n, x, r⟩ := it
  clear h1 h2 h3
  go_enter Try.func21, Try.ntmps21
  go_wp2_with fail
  refine (HW.out _).mono ?_
  rintro e w' ⟨rfl, rfl⟩
  go_wp2_with fail
  refine (HN.out _).mono ?_
  rintro e w' ⟨rfl, rfl⟩
  go_wp2_with fail
  go_ret
  exact ⟨rfl, by go_grown⟩
end Go.Proofs.Ytllhcdkbgknjdaa
