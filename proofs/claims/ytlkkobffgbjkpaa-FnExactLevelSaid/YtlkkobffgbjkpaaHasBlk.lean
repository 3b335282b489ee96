/-
  Whether a store is right, whether it has a block; new stores.
-/
import Derived.Test.YtlkkobffgbjkpaaStore
import Derived.Test.YtlkkobffgbjkpaaBlockMath
import Derived.Test.YtlkkobffgbjkpaaIn
namespace Go.Proofs.Ytlkkobffgbjkpaa
open Go.RowKit Go

theorem impl_storeok (A : Option Addr) (n c : Nat) (hn : n ≤ 4611686018427387904) (w : World) : Calls Try.prog 108 #[stA (.slice A n c)] w fun e w' => e = .returned (.bool (storeB n)) ∧ Below w.heap.size w w' := by
  by_cases h1 : n % 64 = 0
  · have i1 : ((n : Int) % 64 == 0) = true := by simp; omega
    by_cases h2 : n ≤ 768
    · have i2 : (n : Int) ≤ 768 := by omega
      have e : storeB n = true := decide_eq_true ⟨h1, h2⟩
      rw [e]
      clear h1 h2 e
      go_enter Try.func108, Try.ntmps108
      go_wp2
      go_ret
      exact ⟨rfl, below_alloc _ _⟩
    · have i2 : ¬ (n : Int) ≤ 768 := by omega
      have e : storeB n = false := decide_eq_false fun h => h2 h.2
      rw [e]
      clear h1 h2 e
      go_enter Try.func108, Try.ntmps108
      go_wp2
      go_ret
      exact ⟨rfl, below_alloc _ _⟩
  · have i1 : ((n : Int) % 64 == 0) = false := by simp; omega
    have e : storeB n = false := decide_eq_false fun h => h1 h.1
    rw [e]
    clear h1 e
    go_enter Try.func108, Try.ntmps108
    go_wp2
    go_ret
    exact ⟨rfl, below_alloc _ _⟩
theorem spec_storeok (A : Option Addr) (n c : Nat) (hn : n ≤ 4611686018427387904) (w : World) : Calls Try.prog 105 #[stA (.slice A n c)] w fun e w' => e = .returned (.bool (storeB n)) ∧ Below w.heap.size w w' := by
  by_cases h1 : n % 64 = 0
  · have i1 : ((n : Int) % 64 == 0) = true := by simp; omega
    by_cases h2 : n ≤ 768
    · have i2 : (n : Int) ≤ 768 := by omega
      have e : storeB n = true := decide_eq_true ⟨h1, h2⟩
      rw [e]
      clear h1 h2 e
      go_enter Try.func105, Try.ntmps105
      go_wp2
      go_ret
      exact ⟨rfl, below_alloc _ _⟩
    · have i2 : ¬ (n : Int) ≤ 768 := by omega
      have e : storeB n = false := decide_eq_false fun h => h2 h.2
      rw [e]
      clear h1 h2 e
      go_enter Try.func105, Try.ntmps105
      go_wp2
      go_ret
      exact ⟨rfl, below_alloc _ _⟩
  · have i1 : ((n : Int) % 64 == 0) = false := by simp; omega
    have e : storeB n = false := decide_eq_false fun h => h1 h.1
    rw [e]
    clear h1 e
    go_enter Try.func105, Try.ntmps105
    go_wp2
    go_ret
    exact ⟨rfl, below_alloc _ _⟩
end Go.Proofs.Ytlkkobffgbjkpaa
