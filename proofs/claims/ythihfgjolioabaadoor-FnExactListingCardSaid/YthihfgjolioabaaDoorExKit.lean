/-
  What the exact laws ask of lists and stores, in the shape in which they ask it.
-/
import Derived.Test.YthihfgjolioabaaDoorStore
import Derived.Deep.RegionHeld3
namespace Go.Proofs.YthihfgjolioabaaDoor
open Go.RowKit Go

theorem rd_own {w : World} {base : Nat} {e : TypeId} {v : Value} {n : Nat} {ls : List Nat} (h : w.ownsRow base e 1 v n (ls.map u32v)) (hl : n ≤ 4611686018427387904) : RdN w v ls := by
  have hn : ls.length = n := by have := h.1; simpa using this
  subst hn
  exact RdN.of_own h hl
theorem RdN.drew {w : World} {v : Value} {xs : List Nat} (h : RdN w v xs) : RdN w.drew v xs := h
theorem own_apart {u v : Value} {B C : Nat} (hu : ∀ k, u.ownBlock = some k → k < B) (hv : ∀ k, v.ownBlock = some k → C ≤ k) (h : B ≤ C) : u.ownBlock = none ∨ u.ownBlock ≠ v.ownBlock := by
  cases hq : u.ownBlock with
  | none => exact .inl rfl
  | some k => exact .inr fun e => by have h1 := hu k hq; have h2 := hv k e.symm; omega
theorem own_apart2 {u v : Value} {B C : Nat} (hu : ∀ k, u.ownBlock = some k → C ≤ k) (hv : ∀ k, v.ownBlock = some k → k < B) (h : B ≤ C) : u.ownBlock = none ∨ u.ownBlock ≠ v.ownBlock := by
  cases hq : u.ownBlock with
  | none => exact .inl rfl
  | some k => exact .inr fun e => by have h1 := hu k hq; have h2 := hv k e.symm; omega
theorem box_ne {W : World} {g base : Nat} {t e : TypeId} {cs : Array Value} {v : Value} {n : Nat} {xs : List Value} (hk : Blk W g t cs) (ho : W.ownsRow base e 1 v n xs) (ht : t ≠ e) : some g ≠ v.ownBlock := by
  rcases ho.2 with ⟨rfl, -⟩ | ⟨q, cap, cur, rfl, -, hq, -⟩
  · simp [Value.ownBlock]
  · intro h
    have h : g = q := by simpa [Value.ownBlock] using h
    subst h
    unfold Blk at hk
    rw [hk] at hq
    injection hq with h1
    injection h1 with _ h2
    exact ht h2
end Go.Proofs.YthihfgjolioabaaDoor
