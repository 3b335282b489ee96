/-
  Marks of each kind of list, at any place.
-/
import Derived.Test.YtlkkobffgbjkpaaStOwn
namespace Go.Proofs.Ytlkkobffgbjkpaa
open Go.RowKit Go

theorem ret_i64 {a b : Int} (h : a = b) : Ending.returned (.int .i64 a) = .returned (.int .i64 b) := by rw [h]
theorem heldN_at (v : Value) (k n : Nat) (h1 : k ≤ 4194304) (hx : n ≤ 4194304) (W : World) (hr : RdN W v (marksN k n)) :
    Calls Try.prog 89 #[v, .int .i64 k] W fun e w' => e = .returned (.int .i64 ((k : Int) + (n : Int))) ∧ W = w' := by
  have h := heldn_any v (marksN k n) k h1 (by rw [marksN_len]; exact hx) W hr
  rw [marksN_len, if_pos (show marksN k n = List.map (fun x => k + x) (List.range n) from rfl)] at h
  exact h
theorem marksB_get (k n i : Nat) (h : i < (marksB k n).length) : ((marksB k n)[i] : Int) = ((k : Int) + (i : Int)) % 256 := by simp [marksB]
set_option maxHeartbeats 1000000 in
theorem heldB_at (v : Value) (k n : Nat) (h1 : k ≤ 4194304) (hx : n ≤ 4194304) (w : World) (ha : RdM w v (marksB k n)) :
    Calls Try.prog 91 #[v, .int .i64 k] w fun e w' => e = .returned (.int .i64 ((k : Int) + (n : Int))) ∧ w = w' := by
  obtain ⟨A, ca, rfl, hla, hca⟩ := ha
  rw [marksB_len]
  have HA : Hid (∀ i, i < n → ∃ a, A = some a ∧ w.cell? (a.add i) = some (.int .u8 (((k : Int) + (i : Int)) % 256))) := Lib.hid fun i hi => by
    obtain ⟨a, h1, -, h3⟩ := hca i (by rw [marksB_len]; exact hi)
    refine ⟨a, h1, ?_⟩
    rw [h3]
    exact congrArg (fun z => some (Value.int .u8 z)) (marksB_get k n i _)
  clear hca hla
  go_enter Try.func91, Try.ntmps91
  go_wp2
  go_loop [1, 5] (fun vk vi => ∃ i : Nat, vi = .int .i64 i ∧ vk = .int .i64 ((k : Int) + (i : Int)) ∧ i ≤ n) (fun _ vi => n - (intOf vi).toNat)
  case atStart => exact ⟨0, rfl, by simp, by omega⟩
  case round =>
    obtain ⟨i, rfl, rfl, hi⟩ := hrel
    by_cases hp : i < n
    · have i2 : (i : Int) < (n : Int) := by omega
      obtain ⟨a, rfl, hc⟩ := HA.out i hp
      go_wp2
      go_round
      case rel => exact ⟨i + 1, by go_num, by go_num, by omega⟩
      case measure => simp [intOf]; omega
    · obtain rfl : i = n := by omega
      go_wp2
      go_ret
      exact ⟨rfl, rfl⟩
theorem mkaI (base : Nat) (v : Value) (xs : List Int) (z : Int) (k : Nat) (hz : z = (k : Int)) (h1 : k ≤ 4194304) (hx : xs.length ≤ 4194304) (W : World) (hown : W.ownsRow base 21 1 v xs.length ((xs).map iv)) :
    Calls Try.prog 82 #[v, .int .i64 z] W fun e w' => e = .returned (.int .i64 (z + (xs.length : Int))) ∧ w'.ownsRow base 21 1 v xs.length ((marksI k xs.length).map iv) ∧ W.grownBy w' v.ownBlock := by
  subst hz
  exact markI_any base v xs k (by omega) hx W hown
theorem hdaI (v : Value) (n : Nat) (z : Int) (k : Nat) (hz : z = (k : Int)) (h1 : k ≤ 4194304) (hx : n ≤ 4194304) (W : World) (hr : RdI W v (marksI k n)) :
    Calls Try.prog 87 #[v, .int .i64 z] W fun e w' => e = .returned (.int .i64 (z + (n : Int))) ∧ Below W.heap.size W w' := by
  subst hz
  exact (heldI_any v k n (by omega) hx W hr).mono fun e w' ⟨h1, h2⟩ => ⟨h1, by rw [← h2]; exact Below.refl _ _⟩
theorem mkaL (base : Nat) (v : Value) (xs : List Int) (z : Int) (k : Nat) (hz : z = (k : Int)) (h1 : k ≤ 4194304) (hx : xs.length ≤ 4194304) (W : World) (hown : W.ownsRow base 3 1 v xs.length ((xs).map lv)) :
    Calls Try.prog 85 #[v, .int .i64 z] W fun e w' => e = .returned (.int .i64 (z + (xs.length : Int))) ∧ w'.ownsRow base 3 1 v xs.length ((marksL k xs.length).map lv) ∧ W.grownBy w' v.ownBlock := by
  subst hz
  exact markL_any base v xs k (by omega) hx W hown
theorem hdaL (v : Value) (n : Nat) (z : Int) (k : Nat) (hz : z = (k : Int)) (h1 : k ≤ 4194304) (hx : n ≤ 4194304) (W : World) (hr : RdL W v (marksL k n)) :
    Calls Try.prog 90 #[v, .int .i64 z] W fun e w' => e = .returned (.int .i64 (z + (n : Int))) ∧ Below W.heap.size W w' := by
  subst hz
  exact (heldL_any v k n (by omega) hx W hr).mono fun e w' ⟨h1, h2⟩ => ⟨h1, by rw [← h2]; exact Below.refl _ _⟩
theorem mkaN (base : Nat) (v : Value) (xs : List Nat) (z : Int) (k : Nat) (hz : z = (k : Int)) (h1 : k ≤ 4194304) (hx : xs.length ≤ 4194304) (W : World) (hown : W.ownsRow base 144 1 v xs.length ((xs).map u32v)) :
    Calls Try.prog 84 #[v, .int .i64 z] W fun e w' => e = .returned (.int .i64 (z + (xs.length : Int))) ∧ w'.ownsRow base 144 1 v xs.length ((marksN k xs.length).map u32v) ∧ W.grownBy w' v.ownBlock := by
  subst hz
  exact markn_any base v xs k (by omega) hx W hown
theorem hdaN (v : Value) (n : Nat) (z : Int) (k : Nat) (hz : z = (k : Int)) (h1 : k ≤ 4194304) (hx : n ≤ 4194304) (W : World) (hr : RdN W v (marksN k n)) :
    Calls Try.prog 89 #[v, .int .i64 z] W fun e w' => e = .returned (.int .i64 (z + (n : Int))) ∧ Below W.heap.size W w' := by
  subst hz
  exact (heldN_at v k n (by omega) hx W hr).mono fun e w' ⟨h1, h2⟩ => ⟨h1, by rw [← h2]; exact Below.refl _ _⟩
theorem mkaB (base : Nat) (v : Value) (xs : List Nat) (z : Int) (k : Nat) (hz : z = (k : Int)) (h1 : k ≤ 4194304) (hx : xs.length ≤ 4194304) (W : World) (hown : W.ownsRow base 5 1 v xs.length ((xs).map b8v)) :
    Calls Try.prog 86 #[v, .int .i64 z] W fun e w' => e = .returned (.int .i64 (z + (xs.length : Int))) ∧ w'.ownsRow base 5 1 v xs.length ((marksB k xs.length).map b8v) ∧ W.grownBy w' v.ownBlock := by
  subst hz
  exact markb_any base v xs k (by omega) hx W hown
theorem hdaB (v : Value) (n : Nat) (z : Int) (k : Nat) (hz : z = (k : Int)) (h1 : k ≤ 4194304) (hx : n ≤ 4194304) (W : World) (hr : RdM W v (marksB k n)) :
    Calls Try.prog 91 #[v, .int .i64 z] W fun e w' => e = .returned (.int .i64 (z + (n : Int))) ∧ Below W.heap.size W w' := by
  subst hz
  exact (heldB_at v k n (by omega) hx W hr).mono fun e w' ⟨h1, h2⟩ => ⟨h1, by rw [← h2]; exact Below.refl _ _⟩
theorem mkaS (base : Nat) (v : Value) (xs : List (Int × Int)) (z : Int) (k : Nat) (hz : z = (k : Int)) (h1 : k ≤ 4194304) (hx : xs.length ≤ 4194304) (W : World) (hown : W.ownsRow base 109 2 v xs.length (slv (xs))) :
    Calls Try.prog 83 #[v, .int .i64 z] W fun e w' => e = .returned (.int .i64 (z + 2 * (xs.length : Int))) ∧ w'.ownsRow base 109 2 v xs.length (slv (marksS k xs.length)) ∧ W.grownBy w' v.ownBlock := by
  subst hz
  exact markS_any base v xs k (by omega) hx W hown
theorem hdaS (v : Value) (n : Nat) (z : Int) (k : Nat) (hz : z = (k : Int)) (h1 : k ≤ 4194304) (hx : n ≤ 4194304) (W : World) (hr : RdS W v (marksS k n)) :
    Calls Try.prog 88 #[v, .int .i64 z] W fun e w' => e = .returned (.int .i64 (z + 2 * (n : Int))) ∧ Below W.heap.size W w' := by
  subst hz
  exact (heldS_any v k n (by omega) hx W hr).mono fun e w' ⟨h1, h2⟩ => ⟨h1, by rw [← h2]; exact Below.refl _ _⟩
theorem hdzI (v : Value) (n : Nat) (z z2 : Int) (k : Nat) (hz : z = (k : Int)) (hz2 : z + (n : Int) = z2) (h1 : k ≤ 4194304) (hx : n ≤ 4194304) (W : World) (hr : RdI W v (marksI k n)) :
    Calls Try.prog 87 #[v, .int .i64 z] W fun e w' => e = .returned (.int .i64 z2) ∧ Below W.heap.size W w' := by
  subst hz2
  exact hdaI v n z k hz h1 hx W hr
theorem hdzL (v : Value) (n : Nat) (z z2 : Int) (k : Nat) (hz : z = (k : Int)) (hz2 : z + (n : Int) = z2) (h1 : k ≤ 4194304) (hx : n ≤ 4194304) (W : World) (hr : RdL W v (marksL k n)) :
    Calls Try.prog 90 #[v, .int .i64 z] W fun e w' => e = .returned (.int .i64 z2) ∧ Below W.heap.size W w' := by
  subst hz2
  exact hdaL v n z k hz h1 hx W hr
theorem hdzN (v : Value) (n : Nat) (z z2 : Int) (k : Nat) (hz : z = (k : Int)) (hz2 : z + (n : Int) = z2) (h1 : k ≤ 4194304) (hx : n ≤ 4194304) (W : World) (hr : RdN W v (marksN k n)) :
    Calls Try.prog 89 #[v, .int .i64 z] W fun e w' => e = .returned (.int .i64 z2) ∧ Below W.heap.size W w' := by
  subst hz2
  exact hdaN v n z k hz h1 hx W hr
theorem hdzB (v : Value) (n : Nat) (z z2 : Int) (k : Nat) (hz : z = (k : Int)) (hz2 : z + (n : Int) = z2) (h1 : k ≤ 4194304) (hx : n ≤ 4194304) (W : World) (hr : RdM W v (marksB k n)) :
    Calls Try.prog 91 #[v, .int .i64 z] W fun e w' => e = .returned (.int .i64 z2) ∧ Below W.heap.size W w' := by
  subst hz2
  exact hdaB v n z k hz h1 hx W hr
theorem hdzS (v : Value) (n : Nat) (z z2 : Int) (k : Nat) (hz : z = (k : Int)) (hz2 : z + 2 * (n : Int) = z2) (h1 : k ≤ 4194304) (hx : n ≤ 4194304) (W : World) (hr : RdS W v (marksS k n)) :
    Calls Try.prog 88 #[v, .int .i64 z] W fun e w' => e = .returned (.int .i64 z2) ∧ Below W.heap.size W w' := by
  subst hz2
  exact hdaS v n z k hz h1 hx W hr
end Go.Proofs.Ytlkkobffgbjkpaa
