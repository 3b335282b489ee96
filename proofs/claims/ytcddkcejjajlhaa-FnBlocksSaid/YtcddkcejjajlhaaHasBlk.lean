/-
  Whether a store is right, whether it has a block; new stores.
-/
import Derived.Test.YtcddkcejjajlhaaStore
import Derived.Test.YtcddkcejjajlhaaBlockMath
import Derived.Test.YtcddkcejjajlhaaIn
namespace Go.Proofs.Ytcddkcejjajlhaa
open Go.RowKit Go

theorem impl_storeok (A : Option Addr) (n c : Nat) (hn : n ≤ 4611686018427387904) (w : World) : Calls Try.prog 33 #[stA (.slice A n c)] w fun e w' => e = .returned (.bool (storeB n)) ∧ Below w.heap.size w w' := by
  by_cases h1 : n % 64 = 0
  · have i1 : ((n : Int) % 64 == 0) = true := by simp; omega
    by_cases h2 : n ≤ 768
    · have i2 : (n : Int) ≤ 768 := by omega
      have e : storeB n = true := decide_eq_true ⟨h1, h2⟩
      rw [e]
      clear h1 h2 e
      go_enter Try.func33, Try.ntmps33
      go_wp2
      go_ret
      exact ⟨rfl, below_alloc _ _⟩
    · have i2 : ¬ (n : Int) ≤ 768 := by omega
      have e : storeB n = false := decide_eq_false fun h => h2 h.2
      rw [e]
      clear h1 h2 e
      go_enter Try.func33, Try.ntmps33
      go_wp2
      go_ret
      exact ⟨rfl, below_alloc _ _⟩
  · have i1 : ((n : Int) % 64 == 0) = false := by simp; omega
    have e : storeB n = false := decide_eq_false fun h => h1 h.1
    rw [e]
    clear h1 e
    go_enter Try.func33, Try.ntmps33
    go_wp2
    go_ret
    exact ⟨rfl, below_alloc _ _⟩
theorem spec_storeok (A : Option Addr) (n c : Nat) (hn : n ≤ 4611686018427387904) (w : World) : Calls Try.prog 18 #[stA (.slice A n c)] w fun e w' => e = .returned (.bool (storeB n)) ∧ Below w.heap.size w w' := by
  by_cases h1 : n % 64 = 0
  · have i1 : ((n : Int) % 64 == 0) = true := by simp; omega
    by_cases h2 : n ≤ 768
    · have i2 : (n : Int) ≤ 768 := by omega
      have e : storeB n = true := decide_eq_true ⟨h1, h2⟩
      rw [e]
      clear h1 h2 e
      go_enter Try.func18, Try.ntmps18
      go_wp2
      go_ret
      exact ⟨rfl, below_alloc _ _⟩
    · have i2 : ¬ (n : Int) ≤ 768 := by omega
      have e : storeB n = false := decide_eq_false fun h => h2 h.2
      rw [e]
      clear h1 h2 e
      go_enter Try.func18, Try.ntmps18
      go_wp2
      go_ret
      exact ⟨rfl, below_alloc _ _⟩
  · have i1 : ((n : Int) % 64 == 0) = false := by simp; omega
    have e : storeB n = false := decide_eq_false fun h => h1 h.1
    rw [e]
    clear h1 e
    go_enter Try.func18, Try.ntmps18
    go_wp2
    go_ret
    exact ⟨rfl, below_alloc _ _⟩
theorem impl_blockcount (A : Option Addr) (n c : Nat) (hn : n ≤ 4611686018427387904) (w : World) : Calls Try.prog 60 #[stA (.slice A n c)] w fun e w' => e = .returned (.int .i64 ((n / 64 : Nat) : Int)) ∧ Below w.heap.size w w' := by
  go_enter Try.func60, Try.ntmps60
  go_wp2
  go_ret
  exact ⟨by simp, below_alloc _ _⟩

set_option maxHeartbeats 1000000 in
theorem impl_has (A : Option Addr) (n c : Nat) (hn : n ≤ 4611686018427387904) (b : Int) (w : World) : Calls Try.prog 66 #[stA (.slice A n c), .int .i64 b] w fun e w' => e = .returned (.bool (hasB n b)) ∧ Below w.heap.size w w' := by
  by_cases h1 : n % 64 = 0
  · have i1 : ((n : Int) % 64 == 0) = true := by simp; omega
    by_cases h2 : n ≤ 768
    · have i2 : (n : Int) ≤ 768 := by omega
      by_cases h3 : 0 ≤ b
      · by_cases h4 : b < ((n / 64 : Nat) : Int)
        · have i4 : b < (n : Int) / 64 := by omega
          have e : hasB n b = true := decide_eq_true ⟨⟨h1, h2⟩, h3, h4⟩
          rw [e]
          clear h1 h2 h4 e
          go_enter Try.func66, Try.ntmps66
          go_wp2
          go_ret
          exact ⟨rfl, by go_grown⟩
        · have i4 : ¬ b < (n : Int) / 64 := by omega
          have e : hasB n b = false := decide_eq_false fun h => h4 h.2.2
          rw [e]
          clear h1 h2 h4 e
          go_enter Try.func66, Try.ntmps66
          go_wp2
          go_ret
          exact ⟨rfl, by go_grown⟩
      · have e : hasB n b = false := decide_eq_false fun h => h3 h.2.1
        rw [e]
        clear h1 h2 e
        go_enter Try.func66, Try.ntmps66
        go_wp2
        go_ret
        exact ⟨rfl, by go_grown⟩
    · have i2 : ¬ (n : Int) ≤ 768 := by omega
      have e : hasB n b = false := decide_eq_false fun h => h2 h.1.2
      rw [e]
      clear h1 h2 e
      go_enter Try.func66, Try.ntmps66
      go_wp2
      go_ret
      exact ⟨rfl, by go_grown⟩
  · have i1 : ((n : Int) % 64 == 0) = false := by simp; omega
    have e : hasB n b = false := decide_eq_false fun h => h1 h.1.1
    rw [e]
    clear h1 e
    go_enter Try.func66, Try.ntmps66
    go_wp2
    go_ret
    exact ⟨rfl, by go_grown⟩

set_option maxHeartbeats 1000000 in
theorem spec_has (A : Option Addr) (n c : Nat) (hn : n ≤ 4611686018427387904) (b : Int) (w : World) : Calls Try.prog 69 #[stA (.slice A n c), .int .i64 b] w fun e w' => e = .returned (.bool (hasB n b)) ∧ Below w.heap.size w w' := by
  by_cases h1 : n % 64 = 0
  · have i1 : ((n : Int) % 64 == 0) = true := by simp; omega
    by_cases h2 : n ≤ 768
    · have i2 : (n : Int) ≤ 768 := by omega
      by_cases h3 : 0 ≤ b
      · by_cases h4 : b < ((n / 64 : Nat) : Int)
        · have i4 : b < (n : Int) / 64 := by omega
          have e : hasB n b = true := decide_eq_true ⟨⟨h1, h2⟩, h3, h4⟩
          rw [e]
          clear h1 h2 h4 e
          go_enter Try.func69, Try.ntmps69
          go_wp2
          go_ret
          exact ⟨rfl, by go_grown⟩
        · have i4 : ¬ b < (n : Int) / 64 := by omega
          have e : hasB n b = false := decide_eq_false fun h => h4 h.2.2
          rw [e]
          clear h1 h2 h4 e
          go_enter Try.func69, Try.ntmps69
          go_wp2
          go_ret
          exact ⟨rfl, by go_grown⟩
      · have e : hasB n b = false := decide_eq_false fun h => h3 h.2.1
        rw [e]
        clear h1 h2 e
        go_enter Try.func69, Try.ntmps69
        go_wp2
        go_ret
        exact ⟨rfl, by go_grown⟩
    · have i2 : ¬ (n : Int) ≤ 768 := by omega
      have e : hasB n b = false := decide_eq_false fun h => h2 h.1.2
      rw [e]
      clear h1 h2 e
      go_enter Try.func69, Try.ntmps69
      go_wp2
      go_ret
      exact ⟨rfl, by go_grown⟩
  · have i1 : ((n : Int) % 64 == 0) = false := by simp; omega
    have e : hasB n b = false := decide_eq_false fun h => h1 h.1.1
    rw [e]
    clear h1 e
    go_enter Try.func69, Try.ntmps69
    go_wp2
    go_ret
    exact ⟨rfl, by go_grown⟩
end Go.Proofs.Ytcddkcejjajlhaa
