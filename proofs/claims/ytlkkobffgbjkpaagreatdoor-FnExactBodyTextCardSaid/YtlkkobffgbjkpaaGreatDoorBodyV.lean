/-
  BodyText as a plain function.
-/
import Derived.Test.YtlkkobffgbjkpaaGreatDoorOpTextV
import Derived.Test.YtlkkobffgbjkpaaGreatDoorDefsMath
import Derived.Lib.Join
import Derived.Lib.ItoaLen
namespace Go.Proofs.YtlkkobffgbjkpaaGreatDoor
open Go.RowKit Go

/-- The texts of a body's ops. -/
def opTxs (ds : List Df) (xs : List (Int × Int)) : List (List UInt8) := xs.map fun o => (opTx o ds).data.toList
/-- The text of a definition. -/
def bodyL (ds : List Df) (d : Df) : List UInt8 := Lib.join (d.1.data.toList :: opTxs ds d.2) [32]
theorem bodyL_eq (ds : List Df) (d : Df) : bodyL ds d = d.1.data.toList ++ Lib.joinTail [32] (opTxs ds d.2) := Lib.join_cons _ _ _
theorem opTxs_len (ds : List Df) (xs : List (Int × Int)) : (opTxs ds xs).length = xs.length := by simp [opTxs]
theorem opTxs_get {ds : List Df} {xs : List (Int × Int)} {i : Nat} (h : i < xs.length) : (opTxs ds xs)[i]? = some (opTx xs[i] ds).data.toList := by simp [opTxs, h]
theorem primN_size (k : Int) : (primN k).size ≤ 10 := by
  unfold primN
  split
  · obtain ⟨n, hn⟩ : ∃ n, k.toNat = n := ⟨_, rfl⟩
    rw [hn]
    have : n < 24 := by omega
    clear hn
    match n, this with
    | 0, _ | 1, _ | 2, _ | 3, _ | 4, _ | 5, _ | 6, _ | 7, _ | 8, _ | 9, _ | 10, _ | 11, _ | 12, _ | 13, _ | 14, _ | 15, _ | 16, _ | 17, _ | 18, _ | 19, _ | 20, _ | 21, _ | 22, _ | 23, _ => decide
    | n + 24, h => omega
  · decide
theorem opTx_size {o : Int × Int} {ds : List Df} (hs : SmD ds) (h0 : -2147483648 ≤ o.2) (h1 : o.2 ≤ 2147483647) : (opTx o ds).size ≤ 1048576 := by
  unfold opTx
  split
  · rename_i hk
    split
    · have := Lib.itoa_length_le o.2 (by omega) (by omega)
      show (Lib.itoa o.2).toArray.size ≤ _
      simp
      omega
    · split
      · have := primN_size o.2
        omega
      · split
        · rw [List.getD]
          cases hg : ds[o.2.toNat]? with
          | none => decide
          | some d => exact (hs.2 d (List.mem_of_getElem? hg)).1
        · rename_i q0 q1 q2
          have h3 := okOp_rest (k := o.1) (n := o.2) hk q0 q1 q2
          rcases h3 with h | h | h | h | h | h <;> rw [h] <;> decide
  · decide
/-- What BodyText tells. -/
def bodyTx (ds : List Df) (k : Int) : ByteArray := if okDefs ds = true ∧ 0 ≤ k ∧ k < ds.length then ⟨(bodyL ds (ds.getD k.toNat (⟨#[]⟩, []))).toArray⟩ else ⟨#[]⟩
theorem okDefs_len {ds : List Df} (h : okDefs ds = true) : ds.length ≤ 24 ∧ ∀ d ∈ ds, d.2.length ≤ 60 := by
  unfold okDefs at h
  simp only [Bool.and_eq_true, decide_eq_true_eq, List.all_eq_true] at h
  refine ⟨h.1, fun d hd => ?_⟩
  have := h.2 d hd
  unfold okDf shapeB at this
  simp only [Bool.and_eq_true, decide_eq_true_eq] at this
  exact this.2.1.1
end Go.Proofs.YtlkkobffgbjkpaaGreatDoor
