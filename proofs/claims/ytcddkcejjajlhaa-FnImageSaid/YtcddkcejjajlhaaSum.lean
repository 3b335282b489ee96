/-
  The sum of cells: both ways answer the plain function.
-/
import Derived.Test.YtcddkcejjajlhaaStore
import Derived.Test.YtcddkcejjajlhaaStoreMath
import Derived.Laws.BitsAllLaws
namespace Go.Proofs.Ytcddkcejjajlhaa
open Go.RowKit Go

theorem sum_step_int {h c : Nat} (hh : h < 4294967296) (hc : c < 4294967296) : IntKind.u32.wrap (bits .xor .u32 (h : Int) (c : Int) * 16777619) = ((sumStep h c : Nat) : Int) := by
  rw [u32_xor_nat h c hh hc, IntKind.wrap_u32']
  unfold sumStep
  omega
theorem sumFrom_take {l : List Nat} {i : Nat} (hi : i < l.length) (h : Nat) : sumFrom h (l.take (i + 1)) = sumStep (sumFrom h (l.take i)) l[i] := by
  rw [List.take_succ_eq_append_getElem hi, sumFrom_snoc]
set_option maxHeartbeats 1000000 in
theorem impl_sum (v : Value) (xs : List Nat) (hx : ∀ x ∈ xs, x < 4294967296) (w : World) (hr : RdN w v xs) : Calls Try.prog 29 #[v] w fun e w' => e = .returned (.int .u32 (sumL xs : Int)) ∧ w = w' := by
  obtain ⟨A, c, rfl, hsm, hc⟩ := hr
  have HC := Lib.hid hc
  have HX := Lib.hid hx
  clear hc hx
  go_enter Try.func29, Try.ntmps29
  go_wp2
  go_loop [3, 8] (fun vs vi => ∃ i : Nat, vi = .int .i64 i ∧ vs = .int .u32 ((sumFrom 2166136261 (xs.take i) : Nat) : Int) ∧ i ≤ xs.length) (fun _ vi => xs.length - (intOf vi).toNat)
  case atStart => exact ⟨0, rfl, rfl, by omega⟩
  case round =>
    obtain ⟨i, rfl, rfl, hi⟩ := hrel
    by_cases hp : i < xs.length
    · have i2 : (i : Int) < (xs.length : Int) := by omega
      obtain ⟨a, rfl, -, hcell⟩ := HC.out i hp
      have hcell2 : w.cell? (a.add i) = some (.int .u32 (xs[i] : Int)) := hcell
      have hst := sum_step_int (sumFrom_lt (h := 2166136261) (by omega) (xs.take i)) (HX.out _ (List.getElem_mem hp))
      rw [← sumFrom_take hp] at hst
      obtain ⟨z, hz⟩ : ∃ z : Nat, sumFrom 2166136261 (xs.take i) = z := ⟨_, rfl⟩
      obtain ⟨y, hy⟩ : ∃ y : Nat, sumFrom 2166136261 (xs.take (i + 1)) = y := ⟨_, rfl⟩
      obtain ⟨x, hxx⟩ : ∃ x : Nat, xs[i] = x := ⟨_, rfl⟩
      rw [hz, hy, hxx] at hst
      rw [hxx] at hcell2
      rw [hz]
      have HY := Lib.hid hy
      clear hcell hz hy hxx
      go_wp2
      go_round
      case rel => exact ⟨i + 1, by go_num, by rw [HY.out], by omega⟩
      case measure => simp [intOf]; omega
    · obtain rfl : i = xs.length := by omega
      go_wp2
      go_ret
      exact ⟨rfl, rfl⟩
set_option maxHeartbeats 1000000 in
theorem spec_sum (v : Value) (xs : List Nat) (hx : ∀ x ∈ xs, x < 4294967296) (w : World) (hr : RdN w v xs) : Calls Try.prog 30 #[v] w fun e w' => e = .returned (.int .u32 (sumL xs : Int)) ∧ w = w' := by
  obtain ⟨A, c, rfl, hsm, hc⟩ := hr
  have HC := Lib.hid hc
  have HX := Lib.hid hx
  clear hc hx
  go_enter Try.func30, Try.ntmps30
  go_wp2
  go_loop [3, 4] (fun vs vi => ∃ i : Nat, vi = .int .i64 i ∧ vs = .int .u32 ((sumFrom 2166136261 (xs.take i) : Nat) : Int) ∧ i ≤ xs.length) (fun _ vi => xs.length - (intOf vi).toNat)
  case atStart => exact ⟨0, rfl, rfl, by omega⟩
  case round =>
    obtain ⟨i, rfl, rfl, hi⟩ := hrel
    by_cases hp : i < xs.length
    · have i2 : (i : Int) < (xs.length : Int) := by omega
      obtain ⟨a, rfl, -, hcell⟩ := HC.out i hp
      have hcell2 : w.cell? (a.add i) = some (.int .u32 (xs[i] : Int)) := hcell
      have hst := sum_step_int (sumFrom_lt (h := 2166136261) (by omega) (xs.take i)) (HX.out _ (List.getElem_mem hp))
      rw [← sumFrom_take hp] at hst
      obtain ⟨z, hz⟩ : ∃ z : Nat, sumFrom 2166136261 (xs.take i) = z := ⟨_, rfl⟩
      obtain ⟨y, hy⟩ : ∃ y : Nat, sumFrom 2166136261 (xs.take (i + 1)) = y := ⟨_, rfl⟩
      obtain ⟨x, hxx⟩ : ∃ x : Nat, xs[i] = x := ⟨_, rfl⟩
      rw [hz, hy, hxx] at hst
      rw [hxx] at hcell2
      rw [hz]
      have HY := Lib.hid hy
      clear hcell hz hy hxx
      go_wp2
      go_round
      case rel => exact ⟨i + 1, by go_num, by rw [HY.out], by omega⟩
      case measure => simp [intOf]; omega
    · obtain rfl : i = xs.length := by omega
      go_wp2
      go_ret
      exact ⟨rfl, rfl⟩
theorem impl_sum_b (v : Value) (xs : List Nat) (hx : ∀ x ∈ xs, x < 4294967296) (w : World) (hr : RdN w v xs) : Calls Try.prog 29 #[v] w fun e w' => e = .returned (.int .u32 (sumL xs : Int)) ∧ Below w.heap.size w w' :=
  (impl_sum v xs hx w hr).mono fun e w' ⟨h1, h2⟩ => ⟨h1, by rw [h2]; exact Below.refl _ _⟩
theorem spec_sum_b (v : Value) (xs : List Nat) (hx : ∀ x ∈ xs, x < 4294967296) (w : World) (hr : RdN w v xs) : Calls Try.prog 30 #[v] w fun e w' => e = .returned (.int .u32 (sumL xs : Int)) ∧ Below w.heap.size w w' :=
  (spec_sum v xs hx w hr).mono fun e w' ⟨h1, h2⟩ => ⟨h1, by rw [h2]; exact Below.refl _ _⟩
end Go.Proofs.Ytcddkcejjajlhaa
