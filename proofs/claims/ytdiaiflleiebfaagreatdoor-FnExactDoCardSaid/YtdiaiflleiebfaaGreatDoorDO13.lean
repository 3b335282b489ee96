/-
  spec.l08Pure: the words about numbers alone.
  The model's small test: spec.l01In answers whether a number lies between two.
  Whether a store is right, whether it has a block; new stores.
  Whether a state is right: the model's answer and the program's.
-/
import Derived.Test.YtdiaiflleiebfaaGreatDoorDO9
import Derived.Test.YtdiaiflleiebfaaGreatDoorDO12
import Derived.Test.YtdiaiflleiebfaaGreatDoorDO1
import Derived.Test.YtdiaiflleiebfaaGreatDoorDO2
import Derived.Test.YtdiaiflleiebfaaGreatDoorDO4
import Derived.Test.YtdiaiflleiebfaaGreatDoorDO7
namespace Go.Proofs.YtdiaiflleiebfaaGreatDoor
open Go.RowKit Go

/-- What l08Pure tells. -/
def PureEnd (w : World) (k : Nat) (x y : Int) (e : Ending) (w' : World) : Prop :=
  ∃ v, e = .returned (.tuple #[v, .bool true]) ∧ RdI w' v (pure8 k x y) ∧ Below w.heap.size w w'
set_option maxRecDepth 10000 in
theorem pure_0 (x y : Int) (_hy0 : -2147483648 ≤ y) (_hy1 : y ≤ 2147483647) (w : World) : Calls Tryz.prog 41 #[.string ⟨#[100, 117, 112]⟩, .int .i32 x, .int .i32 y] w (PureEnd w 0 x y) := by
  have HR := Lib.hid (rdI_new w 21 (pure8 0 x y) (by simp [pure8]))
  go_enter Tryz.func41, Tryz.ntmps41
  go_wp2
  go_ret2
  exact ⟨_, rfl, HR.out, below_alloc _ _⟩
set_option maxRecDepth 10000 in
theorem pure_1 (x y : Int) (_hy0 : -2147483648 ≤ y) (_hy1 : y ≤ 2147483647) (w : World) : Calls Tryz.prog 41 #[.string ⟨#[100, 114, 111, 112]⟩, .int .i32 x, .int .i32 y] w (PureEnd w 1 x y) := by
  have HR := Lib.hid (rdI_new w 21 (pure8 1 x y) (by simp [pure8]))
  go_enter Tryz.func41, Tryz.ntmps41
  go_wp2
  go_ret2
  exact ⟨_, rfl, HR.out, below_alloc _ _⟩
set_option maxRecDepth 10000 in
theorem pure_2 (x y : Int) (_hy0 : -2147483648 ≤ y) (_hy1 : y ≤ 2147483647) (w : World) : Calls Tryz.prog 41 #[.string ⟨#[111, 118, 101, 114]⟩, .int .i32 x, .int .i32 y] w (PureEnd w 2 x y) := by
  have HR := Lib.hid (rdI_new w 21 (pure8 2 x y) (by simp [pure8]))
  go_enter Tryz.func41, Tryz.ntmps41
  go_wp2
  go_ret2
  exact ⟨_, rfl, HR.out, below_alloc _ _⟩
set_option maxRecDepth 10000 in
theorem pure_3 (x y : Int) (_hy0 : -2147483648 ≤ y) (_hy1 : y ≤ 2147483647) (w : World) : Calls Tryz.prog 41 #[.string ⟨#[110, 105, 112]⟩, .int .i32 x, .int .i32 y] w (PureEnd w 3 x y) := by
  have HR := Lib.hid (rdI_new w 21 (pure8 3 x y) (by simp [pure8]))
  go_enter Tryz.func41, Tryz.ntmps41
  go_wp2
  go_ret2
  exact ⟨_, rfl, HR.out, below_alloc _ _⟩
set_option maxRecDepth 10000 in
theorem pure_4 (x y : Int) (_hy0 : -2147483648 ≤ y) (_hy1 : y ≤ 2147483647) (w : World) : Calls Tryz.prog 41 #[.string ⟨#[115, 119, 97, 112]⟩, .int .i32 x, .int .i32 y] w (PureEnd w 4 x y) := by
  have HR := Lib.hid (rdI_new w 21 (pure8 4 x y) (by simp [pure8]))
  go_enter Tryz.func41, Tryz.ntmps41
  go_wp2
  go_ret2
  exact ⟨_, rfl, HR.out, below_alloc _ _⟩
set_option maxRecDepth 10000 in
theorem pure_5 (x y : Int) (_hy0 : -2147483648 ≤ y) (_hy1 : y ≤ 2147483647) (w : World) : Calls Tryz.prog 41 #[.string ⟨#[43]⟩, .int .i32 x, .int .i32 y] w (PureEnd w 5 x y) := by
  have HR := Lib.hid (rdI_new w 21 (pure8 5 x y) (by simp [pure8]))
  go_enter Tryz.func41, Tryz.ntmps41
  go_wp2
  go_ret2
  exact ⟨_, rfl, HR.out, below_alloc _ _⟩
set_option maxRecDepth 10000 in
theorem pure_6 (x y : Int) (hy0 : -2147483648 ≤ y) (hy1 : y ≤ 2147483647) (w : World) : Calls Tryz.prog 41 #[.string ⟨#[45]⟩, .int .i32 x, .int .i32 y] w (PureEnd w 6 x y) := by
  have HR := Lib.hid (rdI_new w 21 (pure8 6 x y) (by simp [pure8]))
  have n1 : -1 - y ≤ 2147483647 := by omega
  have n2 : -2147483648 ≤ -1 - y := by omega
  have nw : wrap32 (-1 - y) = -1 - y := by unfold wrap32; omega
  clear hy0 hy1
  go_enter Tryz.func41, Tryz.ntmps41
  go_wp2
  go_ret2
  exact ⟨_, rfl, HR.out, below_alloc _ _⟩
set_option maxRecDepth 10000 in
theorem pure_7 (x y : Int) (_hy0 : -2147483648 ≤ y) (_hy1 : y ≤ 2147483647) (w : World) : Calls Tryz.prog 41 #[.string ⟨#[42]⟩, .int .i32 x, .int .i32 y] w (PureEnd w 7 x y) := by
  have HR := Lib.hid (rdI_new w 21 (pure8 7 x y) (by simp [pure8]))
  go_enter Tryz.func41, Tryz.ntmps41
  go_wp2
  go_ret2
  exact ⟨_, rfl, HR.out, below_alloc _ _⟩
set_option maxRecDepth 10000 in
theorem pure_8 (x y : Int) (_hy0 : -2147483648 ≤ y) (_hy1 : y ≤ 2147483647) (w : World) : Calls Tryz.prog 41 #[.string ⟨#[97, 110, 100]⟩, .int .i32 x, .int .i32 y] w (PureEnd w 8 x y) := by
  have HR := Lib.hid (rdI_new w 21 (pure8 8 x y) (by simp [pure8]))
  go_enter Tryz.func41, Tryz.ntmps41
  go_wp2
  go_ret2
  exact ⟨_, rfl, HR.out, below_alloc _ _⟩
set_option maxRecDepth 10000 in
theorem pure_9 (x y : Int) (_hy0 : -2147483648 ≤ y) (_hy1 : y ≤ 2147483647) (w : World) : Calls Tryz.prog 41 #[.string ⟨#[111, 114]⟩, .int .i32 x, .int .i32 y] w (PureEnd w 9 x y) := by
  have HR := Lib.hid (rdI_new w 21 (pure8 9 x y) (by simp [pure8]))
  go_enter Tryz.func41, Tryz.ntmps41
  go_wp2
  go_ret2
  exact ⟨_, rfl, HR.out, below_alloc _ _⟩
set_option maxRecDepth 10000 in
theorem pure_10 (x y : Int) (_hy0 : -2147483648 ≤ y) (_hy1 : y ≤ 2147483647) (w : World) : Calls Tryz.prog 41 #[.string ⟨#[50, 42]⟩, .int .i32 x, .int .i32 y] w (PureEnd w 10 x y) := by
  have HR := Lib.hid (rdI_new w 21 (pure8 10 x y) (by simp [pure8]))
  go_enter Tryz.func41, Tryz.ntmps41
  go_wp2
  go_ret2
  exact ⟨_, rfl, HR.out, below_alloc _ _⟩
set_option maxRecDepth 10000 in
theorem pure_11 (x y : Int) (_hy0 : -2147483648 ≤ y) (_hy1 : y ≤ 2147483647) (w : World) : Calls Tryz.prog 41 #[.string ⟨#[50, 47]⟩, .int .i32 x, .int .i32 y] w (PureEnd w 11 x y) := by
  have HR := Lib.hid (rdI_new w 21 (pure8 11 x y) (by simp [pure8]))
  go_enter Tryz.func41, Tryz.ntmps41
  go_wp2
  go_ret2
  exact ⟨_, rfl, HR.out, below_alloc _ _⟩
set_option maxRecDepth 10000 in
theorem pure_12 (x y : Int) (w : World) : Calls Tryz.prog 41 #[.string ⟨#[47, 109, 111, 100]⟩, .int .i32 x, .int .i32 y] w fun e w' => e = .returned (.tuple #[.slice none 0 0, .bool false]) ∧ w = w' := by
  go_enter Tryz.func41, Tryz.ntmps41
  go_wp2
  go_ret2
  exact ⟨rfl, rfl⟩
set_option maxRecDepth 10000 in
theorem pure_13 (x y : Int) (w : World) : Calls Tryz.prog 41 #[.string ⟨#[64]⟩, .int .i32 x, .int .i32 y] w fun e w' => e = .returned (.tuple #[.slice none 0 0, .bool false]) ∧ w = w' := by
  go_enter Tryz.func41, Tryz.ntmps41
  go_wp2
  go_ret2
  exact ⟨rfl, rfl⟩
set_option maxRecDepth 10000 in
theorem pure_14 (x y : Int) (w : World) : Calls Tryz.prog 41 #[.string ⟨#[33]⟩, .int .i32 x, .int .i32 y] w fun e w' => e = .returned (.tuple #[.slice none 0 0, .bool false]) ∧ w = w' := by
  go_enter Tryz.func41, Tryz.ntmps41
  go_wp2
  go_ret2
  exact ⟨rfl, rfl⟩
set_option maxRecDepth 10000 in
theorem pure_15 (x y : Int) (w : World) : Calls Tryz.prog 41 #[.string ⟨#[97]⟩, .int .i32 x, .int .i32 y] w fun e w' => e = .returned (.tuple #[.slice none 0 0, .bool false]) ∧ w = w' := by
  go_enter Tryz.func41, Tryz.ntmps41
  go_wp2
  go_ret2
  exact ⟨rfl, rfl⟩
set_option maxRecDepth 10000 in
theorem pure_16 (x y : Int) (w : World) : Calls Tryz.prog 41 #[.string ⟨#[97, 33]⟩, .int .i32 x, .int .i32 y] w fun e w' => e = .returned (.tuple #[.slice none 0 0, .bool false]) ∧ w = w' := by
  go_enter Tryz.func41, Tryz.ntmps41
  go_wp2
  go_ret2
  exact ⟨rfl, rfl⟩
set_option maxRecDepth 10000 in
theorem pure_17 (x y : Int) (w : World) : Calls Tryz.prog 41 #[.string ⟨#[101, 109, 105, 116]⟩, .int .i32 x, .int .i32 y] w fun e w' => e = .returned (.tuple #[.slice none 0 0, .bool false]) ∧ w = w' := by
  go_enter Tryz.func41, Tryz.ntmps41
  go_wp2
  go_ret2
  exact ⟨rfl, rfl⟩
set_option maxRecDepth 10000 in
theorem pure_18 (x y : Int) (w : World) : Calls Tryz.prog 41 #[.string ⟨#[107, 101, 121]⟩, .int .i32 x, .int .i32 y] w fun e w' => e = .returned (.tuple #[.slice none 0 0, .bool false]) ∧ w = w' := by
  go_enter Tryz.func41, Tryz.ntmps41
  go_wp2
  go_ret2
  exact ⟨rfl, rfl⟩
set_option maxRecDepth 10000 in
theorem pure_19 (x y : Int) (w : World) : Calls Tryz.prog 41 #[.string ⟨#[112, 117, 115, 104]⟩, .int .i32 x, .int .i32 y] w fun e w' => e = .returned (.tuple #[.slice none 0 0, .bool false]) ∧ w = w' := by
  go_enter Tryz.func41, Tryz.ntmps41
  go_wp2
  go_ret2
  exact ⟨rfl, rfl⟩
set_option maxRecDepth 10000 in
theorem pure_20 (x y : Int) (w : World) : Calls Tryz.prog 41 #[.string ⟨#[112, 111, 112]⟩, .int .i32 x, .int .i32 y] w fun e w' => e = .returned (.tuple #[.slice none 0 0, .bool false]) ∧ w = w' := by
  go_enter Tryz.func41, Tryz.ntmps41
  go_wp2
  go_ret2
  exact ⟨rfl, rfl⟩
set_option maxRecDepth 10000 in
theorem pure_21 (x y : Int) (w : World) : Calls Tryz.prog 41 #[.string ⟨#[105]⟩, .int .i32 x, .int .i32 y] w fun e w' => e = .returned (.tuple #[.slice none 0 0, .bool false]) ∧ w = w' := by
  go_enter Tryz.func41, Tryz.ntmps41
  go_wp2
  go_ret2
  exact ⟨rfl, rfl⟩
set_option maxRecDepth 10000 in
theorem pure_22 (x y : Int) (w : World) : Calls Tryz.prog 41 #[.string ⟨#[46]⟩, .int .i32 x, .int .i32 y] w fun e w' => e = .returned (.tuple #[.slice none 0 0, .bool false]) ∧ w = w' := by
  go_enter Tryz.func41, Tryz.ntmps41
  go_wp2
  go_ret2
  exact ⟨rfl, rfl⟩
set_option maxRecDepth 10000 in
theorem pure_23 (x y : Int) (_hy0 : -2147483648 ≤ y) (_hy1 : y ≤ 2147483647) (w : World) : Calls Tryz.prog 41 #[.string ⟨#[110, 111, 112]⟩, .int .i32 x, .int .i32 y] w (PureEnd w 23 x y) := by
  have HR := Lib.hid (rdI_new w 21 (pure8 23 x y) (by simp [pure8]))
  go_enter Tryz.func41, Tryz.ntmps41
  go_wp2
  go_ret2
  exact ⟨_, rfl, HR.out, below_alloc _ _⟩
def isPure (k : Nat) : Bool := decide (k < 12) || decide (k = 23)
theorem spec_pure_yes (k : Nat) (hk : k < 24) (hp : isPure k = true) (x y : Int) (hy0 : -2147483648 ≤ y) (hy1 : y ≤ 2147483647) (w : World) : Calls Tryz.prog 41 #[.string (primNames.getD k ⟨#[]⟩), .int .i32 x, .int .i32 y] w (PureEnd w k x y) := by
  match k, hk, hp with
  | 0, _, _ => exact pure_0 x y hy0 hy1 w
  | 1, _, _ => exact pure_1 x y hy0 hy1 w
  | 2, _, _ => exact pure_2 x y hy0 hy1 w
  | 3, _, _ => exact pure_3 x y hy0 hy1 w
  | 4, _, _ => exact pure_4 x y hy0 hy1 w
  | 5, _, _ => exact pure_5 x y hy0 hy1 w
  | 6, _, _ => exact pure_6 x y hy0 hy1 w
  | 7, _, _ => exact pure_7 x y hy0 hy1 w
  | 8, _, _ => exact pure_8 x y hy0 hy1 w
  | 9, _, _ => exact pure_9 x y hy0 hy1 w
  | 10, _, _ => exact pure_10 x y hy0 hy1 w
  | 11, _, _ => exact pure_11 x y hy0 hy1 w
  | 12, _, h => exact absurd h (by decide)
  | 13, _, h => exact absurd h (by decide)
  | 14, _, h => exact absurd h (by decide)
  | 15, _, h => exact absurd h (by decide)
  | 16, _, h => exact absurd h (by decide)
  | 17, _, h => exact absurd h (by decide)
  | 18, _, h => exact absurd h (by decide)
  | 19, _, h => exact absurd h (by decide)
  | 20, _, h => exact absurd h (by decide)
  | 21, _, h => exact absurd h (by decide)
  | 22, _, h => exact absurd h (by decide)
  | 23, _, _ => exact pure_23 x y hy0 hy1 w
  | k + 24, h, _ => omega
theorem spec_pure_no (k : Nat) (hk : k < 24) (hp : isPure k = false) (x y : Int) (w : World) : Calls Tryz.prog 41 #[.string (primNames.getD k ⟨#[]⟩), .int .i32 x, .int .i32 y] w fun e w' => e = .returned (.tuple #[.slice none 0 0, .bool false]) ∧ w = w' := by
  match k, hk, hp with
  | 0, _, h => exact absurd h (by decide)
  | 1, _, h => exact absurd h (by decide)
  | 2, _, h => exact absurd h (by decide)
  | 3, _, h => exact absurd h (by decide)
  | 4, _, h => exact absurd h (by decide)
  | 5, _, h => exact absurd h (by decide)
  | 6, _, h => exact absurd h (by decide)
  | 7, _, h => exact absurd h (by decide)
  | 8, _, h => exact absurd h (by decide)
  | 9, _, h => exact absurd h (by decide)
  | 10, _, h => exact absurd h (by decide)
  | 11, _, h => exact absurd h (by decide)
  | 12, _, _ => exact pure_12 x y w
  | 13, _, _ => exact pure_13 x y w
  | 14, _, _ => exact pure_14 x y w
  | 15, _, _ => exact pure_15 x y w
  | 16, _, _ => exact pure_16 x y w
  | 17, _, _ => exact pure_17 x y w
  | 18, _, _ => exact pure_18 x y w
  | 19, _, _ => exact pure_19 x y w
  | 20, _, _ => exact pure_20 x y w
  | 21, _, _ => exact pure_21 x y w
  | 22, _, _ => exact pure_22 x y w
  | 23, _, h => exact absurd h (by decide)
  | k + 24, h, _ => omega
end Go.Proofs.YtdiaiflleiebfaaGreatDoor

namespace Go.Proofs.YtdiaiflleiebfaaGreatDoor
open Go.RowKit

def inB (x a b : Int) : Bool := decide (a ≤ x ∧ x ≤ b)
theorem inB_true {x a b : Int} (h0 : a ≤ x) (h1 : x ≤ b) : inB x a b = true := by unfold inB; simp [h0, h1]
theorem inB_false {x a b : Int} (h : ¬ (a ≤ x ∧ x ≤ b)) : inB x a b = false := by unfold inB; simpa using h
theorem inB_iff {x a b : Int} : inB x a b = true ↔ a ≤ x ∧ x ≤ b := by unfold inB; simp

theorem in_any (x a b : Int) (w : World) :
    Calls Tryz.prog 44 #[.int .i64 x, .int .i64 a, .int .i64 b] w fun e w' => e = .returned (.bool (inB x a b)) ∧ w = w' := by
  by_cases h0 : a ≤ x
  · by_cases h1 : x ≤ b
    · rw [inB_true h0 h1]
      go_enter Tryz.func44, Tryz.ntmps44
      go_wp2
      go_ret
      exact ⟨rfl, rfl⟩
    · rw [inB_false (by omega)]
      have h1' : decide (x ≤ b) = false := by simpa using h1
      go_enter Tryz.func44, Tryz.ntmps44
      go_wp2
      go_ret
      exact ⟨rfl, rfl⟩
  · rw [inB_false (by omega)]
    have h0' : decide (a ≤ x) = false := by simpa using h0
    go_enter Tryz.func44, Tryz.ntmps44
    go_wp2
    go_ret
    exact ⟨rfl, rfl⟩
end Go.Proofs.YtdiaiflleiebfaaGreatDoor

namespace Go.Proofs.YtdiaiflleiebfaaGreatDoor
open Go.RowKit Go

theorem impl_storeok (A : Option Addr) (n c : Nat) (hn : n ≤ 4611686018427387904) (w : World) : Calls Tryz.prog 51 #[stA (.slice A n c)] w fun e w' => e = .returned (.bool (storeB n)) ∧ Below w.heap.size w w' := by
  by_cases h1 : n % 64 = 0
  · have i1 : ((n : Int) % 64 == 0) = true := by simp; omega
    by_cases h2 : n ≤ 768
    · have i2 : (n : Int) ≤ 768 := by omega
      have e : storeB n = true := decide_eq_true ⟨h1, h2⟩
      rw [e]
      clear h1 h2 e
      go_enter Tryz.func51, Tryz.ntmps51
      go_wp2
      go_ret
      exact ⟨rfl, below_alloc _ _⟩
    · have i2 : ¬ (n : Int) ≤ 768 := by omega
      have e : storeB n = false := decide_eq_false fun h => h2 h.2
      rw [e]
      clear h1 h2 e
      go_enter Tryz.func51, Tryz.ntmps51
      go_wp2
      go_ret
      exact ⟨rfl, below_alloc _ _⟩
  · have i1 : ((n : Int) % 64 == 0) = false := by simp; omega
    have e : storeB n = false := decide_eq_false fun h => h1 h.1
    rw [e]
    clear h1 e
    go_enter Tryz.func51, Tryz.ntmps51
    go_wp2
    go_ret
    exact ⟨rfl, below_alloc _ _⟩
theorem spec_storeok (A : Option Addr) (n c : Nat) (hn : n ≤ 4611686018427387904) (w : World) : Calls Tryz.prog 45 #[stA (.slice A n c)] w fun e w' => e = .returned (.bool (storeB n)) ∧ Below w.heap.size w w' := by
  by_cases h1 : n % 64 = 0
  · have i1 : ((n : Int) % 64 == 0) = true := by simp; omega
    by_cases h2 : n ≤ 768
    · have i2 : (n : Int) ≤ 768 := by omega
      have e : storeB n = true := decide_eq_true ⟨h1, h2⟩
      rw [e]
      clear h1 h2 e
      go_enter Tryz.func45, Tryz.ntmps45
      go_wp2
      go_ret
      exact ⟨rfl, below_alloc _ _⟩
    · have i2 : ¬ (n : Int) ≤ 768 := by omega
      have e : storeB n = false := decide_eq_false fun h => h2 h.2
      rw [e]
      clear h1 h2 e
      go_enter Tryz.func45, Tryz.ntmps45
      go_wp2
      go_ret
      exact ⟨rfl, below_alloc _ _⟩
  · have i1 : ((n : Int) % 64 == 0) = false := by simp; omega
    have e : storeB n = false := decide_eq_false fun h => h1 h.1
    rw [e]
    clear h1 e
    go_enter Tryz.func45, Tryz.ntmps45
    go_wp2
    go_ret
    exact ⟨rfl, below_alloc _ _⟩
end Go.Proofs.YtdiaiflleiebfaaGreatDoor

namespace Go.Proofs.YtdiaiflleiebfaaGreatDoor
open Go.RowKit Go

theorem RdL.at {w : World} {A : Option Addr} {n cap : Nat} {xs : List Int} (h : RdL w (.slice A n cap) xs) {i : Nat} (hi : i < xs.length) : ∃ a, A = some a ∧ a.block < w.heap.size ∧ w.cell? (a.add i) = some (.int .i64 xs[i]) := by
  obtain ⟨A3, c4, hv4, -, hc4⟩ := h
  injection hv4 with e1 e2 e3
  subst e1 e3
  exact hc4 i hi
theorem RdL.len {w : World} {v : Value} {xs : List Int} (h : RdL w v xs) : xs.length ≤ 4611686018427387904 := by
  obtain ⟨_, _, _, h, _⟩ := h
  exact h
theorem RdL.take {w : World} {A : Option Addr} {n cap : Nat} {xs : List Int} (h : RdL w (.slice A n cap) xs) {k : Nat} (hk : k ≤ xs.length) : RdL w (.slice A k cap) (xs.take k) := by
  have hl := h.len
  have e : (xs.take k).length = k := by simp; omega
  refine ⟨A, cap, by rw [e], by omega, fun i hi => ?_⟩
  obtain ⟨a, h1, h2, h3⟩ := h.at (i := i) (by omega)
  exact ⟨a, h1, h2, by rw [h3]; simp [lv]⟩
/-- Where a number stands, if it does. -/
def IdxEnd (xs : List Int) (x : Int) (w : World) (e : Ending) (w' : World) : Prop := ∃ n : Int, e = .returned (.int .i64 n) ∧ decide (0 ≤ n) = decide (x ∈ xs) ∧ w = w'
theorem not_take_succ {xs : List Int} {x : Int} {i : Nat} (hp : i < xs.length) (h : x ∉ xs.take i) (he : xs[i] ≠ x) : x ∉ xs.take (i + 1) := by
  rw [List.take_succ_eq_append_getElem hp]
  intro hm
  rcases List.mem_append.1 hm with h1 | h1
  · exact h h1
  · exact he (List.mem_singleton.1 h1).symm
set_option maxHeartbeats 1000000 in
theorem index_any (v : Value) (xs : List Int) (x : Int) (w : World) (hr : RdL w v xs) : Calls Tryz.prog 162 #[v, .int .i64 x] w (IdxEnd xs x w) := by
  obtain ⟨A, cap, rfl⟩ := hr.form
  have hl := hr.len
  have HR := Lib.hid hr
  clear hr
  go_enter Tryz.func162, Tryz.ntmps162
  go_wp2
  go_loop [8] (fun vi => ∃ i : Nat, vi = .int .i64 i ∧ i ≤ xs.length ∧ Hid (x ∉ xs.take i)) (fun vi => xs.length - (intOf vi).toNat)
  case atStart => exact ⟨0, rfl, by omega, Lib.hid (by simp)⟩
  case round =>
    obtain ⟨i, rfl, hi, HN⟩ := hrel
    by_cases hp : i < xs.length
    · obtain ⟨a, rfl, -, hc⟩ := HR.out.at hp
      have i1 : (0 : Int) ≤ (i : Int) := by omega
      have i2 : (i : Int) < (xs.length : Int) := by omega
      obtain ⟨y, hy⟩ : ∃ y, xs[i] = y := ⟨_, rfl⟩
      rw [hy] at hc
      by_cases he : y = x
      · have he' : (x == y) = true := by simp [he]
        have HD : Hid (decide (0 ≤ (i : Int)) = decide (x ∈ xs)) := Lib.hid (by rw [decide_eq_true i1, decide_eq_true (by rw [← he, ← hy]; exact List.getElem_mem _)])
        clear he hy
        go_wp2
        go_ret
        exact ⟨_, rfl, HD.out, rfl⟩
      · have he' : (x == y) = false := by simp; exact fun e => he e.symm
        have HN2 : Hid (x ∉ xs.take (i + 1)) := Lib.hid (not_take_succ hp HN.out (by rw [hy]; exact he))
        clear he hy
        go_wp2
        go_round
        case rel => exact ⟨i + 1, by go_num, by omega, HN2⟩
        case measure => simp [intOf]; omega
    · have HD : Hid (decide (0 ≤ (-1 : Int)) = decide (x ∈ xs)) := Lib.hid (by
        have h := HN.out
        rw [List.take_of_length_le (by omega)] at h
        rw [decide_eq_false h]
        rfl)
      go_wp2
      go_ret
      exact ⟨_, rfl, HD.out, rfl⟩
theorem contains_any (v : Value) (xs : List Int) (x : Int) (w : World) (hr : RdL w v xs) : Calls Tryz.prog 110 #[v, .int .i64 x] w fun e w' => e = .returned (.bool (decide (x ∈ xs))) ∧ w = w' := by
  have HI := Lib.hid (index_any v xs x w hr)
  obtain ⟨A, cap, rfl⟩ := hr.form
  obtain ⟨q, hq⟩ : ∃ q, decide (x ∈ xs) = q := ⟨_, rfl⟩
  unfold IdxEnd at HI
  rw [hq] at HI ⊢
  clear hr hq
  go_enter Tryz.func110, Tryz.ntmps110
  go_wp2_with fail
  refine HI.out.mono ?_
  rintro e w' ⟨n, rfl, hd, rfl⟩
  have HD := Lib.hid hd
  clear hd HI
  go_wp2_with fail
  go_ret
  exact ⟨by rw [← HD.out]; rfl, rfl⟩

theorem kindsB_no {r : List (Int × Int)} {i : Nat} (h : i < r.length) (hb : ¬ (0 ≤ (r[i]).1 ∧ (r[i]).1 ≤ 2)) : kindsB r = false := decide_eq_false fun e => hb (e i h)
set_option maxHeartbeats 1000000 in
theorem impl_slotsok (v : Value) (xs : List (Int × Int)) (w : World) (hr : RdS w v xs) : Calls Tryz.prog 50 #[v] w fun e w' => e = .returned (.bool (decide (xs.length ≤ 24) && kindsB xs)) ∧ Below w.heap.size w w' := by
  obtain ⟨A, cap, rfl⟩ := hr.form
  have hl : xs.length ≤ 4611686018427387904 := by obtain ⟨_, _, _, h, _⟩ := hr; exact h
  have HR := Lib.hid (fun W (h : Below w.heap.size w W) => hr.below h)
  clear hr
  by_cases h24 : xs.length ≤ 24
  · have h24' : ¬ (24 : Int) < (xs.length : Int) := by omega
    rw [decide_eq_true h24, Bool.true_and]
    go_enter Tryz.func50, Tryz.ntmps50
    go_wp2
    go_loopw [10] (fun vi wr => ∃ i : Nat, vi = .int .i64 i ∧ i ≤ xs.length ∧ Hid (∀ j (h : j < xs.length), j < i → 0 ≤ (xs[j]).1 ∧ (xs[j]).1 ≤ 2) ∧ Hid (Below w.heap.size w wr)) (fun vi _ => xs.length - (intOf vi).toNat)
    case atStart => exact ⟨0, rfl, by omega, Lib.hid (fun j _ h => by omega), Lib.hid (Below.refl _ _)⟩
    case round =>
      obtain ⟨i, rfl, hi, HN, HB⟩ := hrel
      by_cases hp : i < xs.length
      · obtain ⟨a, rfl, la, p0, p1⟩ := (HR.out wr HB.out).item hp
        have i1 : (0 : Int) ≤ (i : Int) := by omega
        have i2 : (i : Int) < (xs.length : Int) := by omega
        obtain ⟨y, hy⟩ : ∃ y, xs[i] = y := ⟨_, rfl⟩
        obtain ⟨k, z⟩ := y
        rw [hy] at p0 p1
        have HB2 := Lib.hid (HB.out.alloc HB.out.size (.cells #[.int .i64 k, .int .i32 z] 69))
        by_cases hk : 0 ≤ k ∧ k ≤ 2
        · obtain ⟨k0, k1⟩ := hk
          have q0 : ¬ k < 0 := by omega
          have q0' : decide (k < 0) = false := by simpa using k0
          have q1 : ¬ 2 < k := by omega
          have HN2 : Hid (∀ j (h : j < xs.length), j < i + 1 → 0 ≤ (xs[j]).1 ∧ (xs[j]).1 ≤ 2) := Lib.hid fun j hj h2 => by
            rcases Nat.lt_or_ge j i with h3 | h3
            · exact HN.out j hj h3
            · obtain rfl : j = i := by omega
              rw [hy]
              exact ⟨k0, k1⟩
          clear hy HN
          go_wp2
          go_roundw
          case rel => exact ⟨i + 1, by go_num, by omega, HN2, HB2⟩
          case measure => simp [intOf]; omega
        · have HK := Lib.hid (kindsB_no (r := xs) hp (by rw [hy]; exact hk))
          by_cases k0 : 0 ≤ k
          · have q0 : ¬ k < 0 := by omega
            have q0' : decide (k < 0) = false := by simpa using k0
            have q1 : 2 < k := by omega
            clear hy HN hk
            go_wp2
            go_ret
            exact ⟨by rw [HK.out]; rfl, HB2.out⟩
          · have q0 : k < 0 := by omega
            have q0' : decide (k < 0) = true := by simpa using q0
            clear hy HN hk
            go_wp2
            go_ret
            exact ⟨by rw [HK.out]; rfl, HB2.out⟩
      · have HK : Hid (kindsB xs = true) := Lib.hid (decide_eq_true fun j hj => HN.out j hj (by omega))
        go_wp2
        go_ret
        exact ⟨by rw [HK.out]; rfl, HB.out⟩
  · have h24' : (24 : Int) < (xs.length : Int) := by omega
    rw [decide_eq_false h24, Bool.false_and]
    clear h24
    go_enter Tryz.func50, Tryz.ntmps50
    go_wp2
    go_ret
    exact ⟨rfl, Below.refl _ _⟩

theorem varsB_no {v : List Int} {n i : Nat} (h : i < v.length) (hb : ¬ ((0 ≤ v[i] ∧ v[i] < (n : Int)) ∧ v[i] ∉ v.take i)) : varsB v n = false := decide_eq_false fun e => hb (e i h)
set_option maxRecDepth 100000 in
set_option maxHeartbeats 4000000 in
theorem impl_varsok (d r m c v o i : Value) (S : S8) (w : World) (hr : RdSt w d r m c v o i S) :
    Calls Tryz.prog 52 #[.agg #[d, r, .int .i32 S.a, m, c, v, o, i, .int .i64 S.fault, .int .i64 S.fuel]] w fun e w' => e = .returned (.bool (decide (S.vars.length ≤ 20) && varsB S.vars S.cells.length)) ∧ Below w.heap.size w w' := by
  have hform := hr.form
  obtain ⟨⟨A0, a0, rfl⟩, ⟨A1, a1, rfl⟩, ⟨A2, a2, rfl⟩, ⟨A3, a3, rfl⟩, ⟨A4, a4, rfl⟩, ⟨A5, a5, rfl⟩, ⟨A6, a6, rfl⟩⟩ := hform
  have hl := hr.v.len
  have HR := Lib.hid (fun W (h : Below w.heap.size w W) => (hr.below h).v)
  have hcap : S.vars.length ≤ a4 := hr.k _ _ _ rfl
  clear hr
  generalize S.data.length = n0
  generalize S.ret.length = n1
  generalize S.mem.length = n2
  generalize S.out.length = n5
  generalize S.inp.length = n6
  generalize S.cells.length = n3
  generalize S.vars = vs at hl HR hcap ⊢
  generalize S.a = z1
  generalize S.fault = z2
  generalize S.fuel = z3
  by_cases h20 : vs.length ≤ 20
  · have h20' : ¬ (20 : Int) < (vs.length : Int) := by omega
    rw [decide_eq_true h20, Bool.true_and]
    have HB0 := Lib.hid (below_alloc w (.cells #[.slice A0 n0 a0, .slice A1 n1 a1, .int .i32 z1, .slice A2 n2 a2, .slice A3 n3 a3, .slice A4 vs.length a4, .slice A5 n5 a5, .slice A6 n6 a6, .int .i64 z2, .int .i64 z3] 29))
    have HV := Lib.hid (HR.out _ HB0.out)
    clear HR
    go_enter Tryz.func52, Tryz.ntmps52
    go_wp2
    go_loop [12] (fun vi => ∃ i : Nat, vi = .int .i64 i ∧ i ≤ vs.length ∧ Hid (∀ j (h : j < vs.length), j < i → (0 ≤ vs[j] ∧ vs[j] < (n3 : Int)) ∧ vs[j] ∉ vs.take j)) (fun vi => vs.length - (intOf vi).toNat)
    case atStart => exact ⟨0, rfl, by omega, Lib.hid (fun j _ h => by omega)⟩
    case round =>
      obtain ⟨i, rfl, hi, HN⟩ := hrel
      by_cases hp : i < vs.length
      · obtain ⟨a, rfl, la, p0⟩ := HV.out.at hp
        have HC := Lib.hid (HV.out.take (k := i) (by omega))
        have hic : i ≤ a4 := by omega
        have hic2 : (i : Int) ≤ (a4 : Int) := by omega
        have i1 : (0 : Int) ≤ (i : Int) := by omega
        have i2 : (i : Int) < (vs.length : Int) := by omega
        obtain ⟨x, hx⟩ : ∃ x, vs[i] = x := ⟨_, rfl⟩
        rw [hx] at p0
        by_cases x0 : 0 ≤ x
        · have q0 : ¬ x < 0 := by omega
          have q0' : decide (x < 0) = false := by simpa using x0
          by_cases x1 : x < (n3 : Int)
          · have q1 : ¬ (n3 : Int) ≤ x := by omega
            have q1' : decide ((n3 : Int) ≤ x) = false := by simpa using x1
            by_cases x2 : x ∈ vs.take i
            · have HK := Lib.hid (varsB_no (n := n3) hp (fun h => h.2 (by rw [hx]; exact x2)))
              have HCC := Lib.hid (contains_any _ _ x _ HC.out)
              rw [decide_eq_true x2] at HCC
              clear hx HN x2 x0 x1
              go_wp2_with fail
              refine HCC.out.mono ?_
              rintro e w' ⟨rfl, rfl⟩
              go_wp2_with fail
              go_ret
              exact ⟨by rw [HK.out]; rfl, HB0.out⟩
            · have HN2 : Hid (∀ j (h : j < vs.length), j < i + 1 → (0 ≤ vs[j] ∧ vs[j] < (n3 : Int)) ∧ vs[j] ∉ vs.take j) := Lib.hid fun j hj h2 => by
                rcases Nat.lt_or_ge j i with h3 | h3
                · exact HN.out j hj h3
                · obtain rfl : j = i := by omega
                  rw [hx]
                  exact ⟨⟨x0, x1⟩, x2⟩
              have HCC := Lib.hid (contains_any _ _ x _ HC.out)
              rw [decide_eq_false x2] at HCC
              clear hx HN x2 x0 x1
              go_wp2_with fail
              refine HCC.out.mono ?_
              rintro e w' ⟨rfl, rfl⟩
              go_wp2_with fail
              go_round
              case rel => exact ⟨i + 1, by go_num, by omega, HN2⟩
              case measure => simp [intOf]; omega
          · have q1 : (n3 : Int) ≤ x := by omega
            have q1' : decide ((n3 : Int) ≤ x) = true := by simpa using q1
            have HK := Lib.hid (varsB_no (n := n3) hp (fun h => x1 (by rw [← hx]; exact h.1.2)))
            clear hx HN x0 x1
            go_wp2
            go_ret
            exact ⟨by rw [HK.out]; rfl, HB0.out⟩
        · have q0 : x < 0 := by omega
          have q0' : decide (x < 0) = true := by simpa using q0
          have HK := Lib.hid (varsB_no (n := n3) hp (fun h => x0 (by rw [← hx]; exact h.1.1)))
          clear hx HN x0
          go_wp2
          go_ret
          exact ⟨by rw [HK.out]; rfl, HB0.out⟩
      · have HK : Hid (varsB vs n3 = true) := Lib.hid (decide_eq_true fun j hj => HN.out j hj (by omega))
        go_wp2
        go_ret
        exact ⟨by rw [HK.out]; rfl, HB0.out⟩
  · have h20' : (20 : Int) < (vs.length : Int) := by omega
    rw [decide_eq_false h20, Bool.false_and]
    clear h20
    go_enter Tryz.func52, Tryz.ntmps52
    go_wp2
    go_ret
    exact ⟨rfl, below_alloc _ _⟩
end Go.Proofs.YtdiaiflleiebfaaGreatDoor
