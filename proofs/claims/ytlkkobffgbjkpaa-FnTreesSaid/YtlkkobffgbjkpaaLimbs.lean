/-
  limbOf by cases; whether two ops are alike.
-/
import Derived.Test.YtlkkobffgbjkpaaLimb
import Derived.Laws.StructEq
namespace Go.Proofs.Ytlkkobffgbjkpaa
open Go.RowKit Go

theorem wait_open {o : Int × Int} {r : List (Int × Int)} {st : List Int} (h : okOp o = true) (h3 : o.1 = 3 ∨ o.1 = 4 ∨ o.1 = 6) : waitG (o :: r) st = waitG r (st ++ [o.1]) := by rw [waitG, if_pos ⟨h, by omega, by omega⟩, if_pos h3]
theorem wait_leaf {o : Int × Int} {r : List (Int × Int)} {st : List Int} (h : okOp o = true) (h3 : o.1 ≠ 3 ∧ o.1 ≠ 4 ∧ o.1 ≠ 5 ∧ o.1 ≠ 6 ∧ o.1 ≠ 7) : waitG (o :: r) st = waitG r st := by rw [waitG, if_pos ⟨h, h3.2.2.1, h3.2.2.2.2⟩, if_neg (by omega)]
theorem wait_none {o : Int × Int} {r : List (Int × Int)} (h : ¬ (okOp o = true ∧ o.1 ≠ 5 ∧ o.1 ≠ 7)) : waitG (o :: r) [] = none := by rw [waitG, if_neg h]; rfl
theorem wait_pop {o : Int × Int} {r : List (Int × Int)} {st : List Int} {q : Int} (h : ¬ (okOp o = true ∧ o.1 ≠ 5 ∧ o.1 ≠ 7)) : waitG (o :: r) (st ++ [q]) = if endOf q = o then waitG r st else none := by
  rw [waitG, if_neg h]
  simp
/-- An op that begins nothing. -/
theorem limb_none (k n : Int) (h : ¬ (okOp (k, n) = true ∧ k ≠ 5 ∧ k ≠ 7)) (hn0 : -2147483648 ≤ n) (hn1 : n ≤ 2147483647) (w : World) : Calls Try.prog 94 #[.agg #[.int .i64 k, .int .i32 n, .slice none 0 0]] w fun e w' => (∃ t u, e = .returned (.tuple #[.iface t u, .bool false]) ∨ e = .returned (.tuple #[.nilIface, .bool false])) ∧ Below w.heap.size w w' := by
  by_cases h5 : k = 5
  · subst h5
    exact (limb_end5 n w).mono fun e w' ⟨h1, h2⟩ => ⟨⟨0, .bool false, .inr h1⟩, h2⟩
  by_cases h7 : k = 7
  · subst h7
    exact (limb_end7 n w).mono fun e w' ⟨h1, h2⟩ => ⟨⟨0, .bool false, .inr h1⟩, h2⟩
  have hq : okOp (k, n) = false := by
    cases hh : okOp (k, n) with
    | false => rfl
    | true => exact absurd ⟨hh, h5, h7⟩ h
  by_cases h3 : k = 3
  · subst h3
    exact (limb_if n false hq hn0 hn1 w).mono fun e w' ⟨h1, h2⟩ => ⟨⟨_, _, .inl h1⟩, h2⟩
  by_cases h4 : k = 4
  · subst h4
    exact (limb_unless n false hq hn0 hn1 w).mono fun e w' ⟨h1, h2⟩ => ⟨⟨_, _, .inl h1⟩, h2⟩
  by_cases h6 : k = 6
  · subst h6
    exact (limb_for n false hq hn0 hn1 w).mono fun e w' ⟨h1, h2⟩ => ⟨⟨_, _, .inl h1⟩, h2⟩
  exact (limb_leaf_false k n ⟨h3, h4, h5, h6, h7⟩ hq hn0 hn1 w).mono fun e w' ⟨h1, h2⟩ => ⟨⟨_, _, .inl h1⟩, h2⟩
set_option maxRecDepth 100000 in
theorem op_neq (w : World) (k1 n1 k2 n2 : Int) : (binOp .neq 75 (.agg #[.int .i64 k1, .int .i32 n1]) (.agg #[.int .i64 k2, .int .i32 n2])).run Try.prog w = .ok (.bool (!decide ((k1, n1) = (k2, n2)))) w := by
  have h : (binOp .neq 75 (.agg #[.int .i64 k1, .int .i32 n1]) (.agg #[.int .i64 k2, .int .i32 n2])).run Try.prog w = .ok (.bool (!(k1 == k2 && n1 == n2))) w := by
    simp [go_sem, Try.underlying75, Try.underlying3, Try.underlying21]
    (repeat' split) <;> simp_all
  have h2 : (k1 == k2 && n1 == n2) = decide ((k1, n1) = (k2, n2)) := by rw [Bool.eq_iff_iff]; simp
  rw [h, h2]
end Go.Proofs.Ytlkkobffgbjkpaa
