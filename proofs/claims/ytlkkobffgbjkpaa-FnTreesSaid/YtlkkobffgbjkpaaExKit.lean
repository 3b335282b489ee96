/-
  What the exact laws ask of lists and stores, in the shape in which they ask it.
-/
import Derived.Test.YtlkkobffgbjkpaaStore
import Derived.Deep.RegionHeld3
namespace Go.Proofs.Ytlkkobffgbjkpaa
open Go.RowKit Go

theorem rd_own {w : World} {base : Nat} {e : TypeId} {v : Value} {n : Nat} {ls : List Nat} (h : w.ownsRow base e 1 v n (ls.map u32v)) (hl : n ≤ 4611686018427387904) : RdN w v ls := by
  have hn : ls.length = n := by have := h.1; simpa using this
  subst hn
  exact RdN.of_own h hl
theorem RdN.drew {w : World} {v : Value} {xs : List Nat} (h : RdN w v xs) : RdN w.drew v xs := h
theorem own_apart {u v : Value} {B C : Nat} (hu : ∀ k, u.ownBlock = some k → k < B) (hv : ∀ k, v.ownBlock = some k → C ≤ k) (h : B ≤ C) : u.ownBlock = none ∨ u.ownBlock ≠ v.ownBlock := by
  cases hq : u.ownBlock with
  | none => exact .inl rfl
  | some k => exact .inr fun e => by have h1 := hu k hq; have h2 := hv k e.symm; omega
theorem own_apart2 {u v : Value} {B C : Nat} (hu : ∀ k, u.ownBlock = some k → C ≤ k) (hv : ∀ k, v.ownBlock = some k → k < B) (h : B ≤ C) : u.ownBlock = none ∨ u.ownBlock ≠ v.ownBlock := by
  cases hq : u.ownBlock with
  | none => exact .inl rfl
  | some k => exact .inr fun e => by have h1 := hu k hq; have h2 := hv k e.symm; omega
theorem box_ne {W : World} {g base : Nat} {t e : TypeId} {cs : Array Value} {v : Value} {n : Nat} {xs : List Value} (hk : Blk W g t cs) (ho : W.ownsRow base e 1 v n xs) (ht : t ≠ e) : some g ≠ v.ownBlock := by
  rcases ho.2 with ⟨rfl, -⟩ | ⟨q, cap, cur, rfl, -, hq, -⟩
  · simp [Value.ownBlock]
  · intro h
    have h : g = q := by simpa [Value.ownBlock] using h
    subst h
    unfold Blk at hk
    rw [hk] at hq
    injection hq with h1
    injection h1 with _ h2
    exact ht h2
theorem eqn_same (a b : Value) (xs : List Nat) (w : World) (ha : RdN w a xs) (hb : RdN w b xs) : Calls Try.prog 79 #[a, b] w fun e w' => e = .returned (.bool true) ∧ Below w.heap.size w w' := by
  have h := eqn_any a b xs xs w ha hb
  rw [decide_eq_true rfl] at h
  exact h.mono fun e w' ⟨h1, d, h2⟩ => ⟨h1, by rw [h2]; exact below_drewN (Below.refl _ _) d⟩
theorem markn1 (base : Nat) (v : Value) (xs : List Nat) (hx : xs.length ≤ 4194304) (W : World) (hown : W.ownsRow base 144 1 v xs.length (xs.map u32v)) :
    Calls Try.prog 84 #[v, .int .i64 1] W fun e w' => e = .returned (.int .i64 (1 + (xs.length : Int))) ∧ w'.ownsRow base 144 1 v xs.length ((marksN 1 xs.length).map u32v) ∧ W.grownBy w' v.ownBlock := markn_any base v xs 1 (by omega) hx W hown
theorem markn2 (base : Nat) (v : Value) (xs : List Nat) (n : Nat) (hn : n ≤ 1048576) (hx : xs.length ≤ 4194304) (W : World) (hown : W.ownsRow base 144 1 v xs.length (xs.map u32v)) :
    Calls Try.prog 84 #[v, .int .i64 (1 + (n : Int))] W fun e w' => e = .returned (.int .i64 (1 + (n : Int) + (xs.length : Int))) ∧ w'.ownsRow base 144 1 v xs.length ((marksN (1 + n) xs.length).map u32v) ∧ W.grownBy w' v.ownBlock := by
  have h := markn_any base v xs (1 + n) (by omega) hx W hown
  have e : ((1 + n : Nat) : Int) = 1 + (n : Int) := by omega
  rw [e] at h
  exact h
theorem heldn1 (v : Value) (n : Nat) (hx : n ≤ 4194304) (W : World) (hr : RdN W v (marksN 1 n)) :
    Calls Try.prog 89 #[v, .int .i64 1] W fun e w' => e = .returned (.int .i64 (1 + (n : Int))) ∧ Below W.heap.size W w' := by
  have h := heldn_any v (marksN 1 n) 1 (by omega) (by rw [marksN_len]; exact hx) W hr
  rw [marksN_len, if_pos (show marksN 1 n = List.map (fun x => 1 + x) (List.range n) from rfl)] at h
  exact h.mono fun e w' ⟨h1, h2⟩ => ⟨h1, by rw [h2]; exact Below.refl _ _⟩
end Go.Proofs.Ytlkkobffgbjkpaa
