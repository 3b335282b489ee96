/-
  The text of an op, as a plain function.
-/
import Derived.Test.YtlkkobffgbjkpaaGreatDoorOpSigns
import Derived.Test.YtlkkobffgbjkpaaGreatDoorDefs
import Derived.Test.YtlkkobffgbjkpaaGreatDoorOpMath
import Derived.Test.YtlkkobffgbjkpaaGreatDoorPrimName
import Derived.Lib.ItoaNum
namespace Go.Proofs.YtlkkobffgbjkpaaGreatDoor
open Go.RowKit Go

/-- The text of an op. -/
def opTx (o : Int × Int) (ds : List Df) : ByteArray :=
  if okOp o = true then (if o.1 = 0 then ⟨(Lib.itoa o.2).toArray⟩ else if o.1 = 1 then primN o.2 else if o.1 = 2 then (ds.getD o.2.toNat (⟨#[]⟩, [])).1 else opSignL.getD o.1.toNat ⟨#[]⟩) else ⟨#[]⟩
theorem opTx_not {k n : Int} {ds : List Df} (h : okOp (k, n) = false) : opTx (k, n) ds = ⟨#[]⟩ := by unfold opTx; rw [if_neg (by rw [h]; simp)]
theorem opTx_ok {k n : Int} {ds : List Df} (h : okOp (k, n) = true) : opTx (k, n) ds = (if k = 0 then ⟨(Lib.itoa n).toArray⟩ else if k = 1 then primN n else if k = 2 then (ds.getD n.toNat (⟨#[]⟩, [])).1 else opSignL.getD k.toNat ⟨#[]⟩) := by unfold opTx; rw [if_pos h]
theorem okOp_two {n : Int} (h : okOp (2, n) = true) : 0 ≤ n ∧ n ≤ 23 := by simpa [okOp] using h
theorem okOp_rest {k n : Int} (h : okOp (k, n) = true) (h0 : k ≠ 0) (h1 : k ≠ 1) (h2 : k ≠ 2) : k = 3 ∨ k = 4 ∨ k = 5 ∨ k = 6 ∨ k = 7 ∨ k = 8 := by
  simp [okOp, h0, h1, h2] at h
  omega
theorem getD_in {ds : List Df} {n : Int} {i : Nat} (hi : i < ds.length) (hn : n = (i : Int)) : (ds.getD n.toNat (⟨#[]⟩, [])).1 = ds[i].1 := by
  subst hn
  simp [List.getD, List.getElem?_eq_getElem hi]
theorem getD_out {ds : List Df} {n : Int} (hn : (ds.length : Int) ≤ n) : (ds.getD n.toNat (⟨#[]⟩, [])).1 = ⟨#[]⟩ := by
  rw [List.getD, List.getElem?_eq_none (by omega)]
  rfl
end Go.Proofs.YtlkkobffgbjkpaaGreatDoor
