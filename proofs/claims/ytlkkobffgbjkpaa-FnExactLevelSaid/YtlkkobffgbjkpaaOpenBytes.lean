/-
  Bytes that come in.
-/
import Derived.Test.YtlkkobffgbjkpaaB8
import Derived.ChangeSlices
import Derived.Lib.SmallJoins
namespace Go.Proofs.Ytlkkobffgbjkpaa
open Go.ChangeShapes Go.WideShapes Go.ChangeAt Go.RowKit Go

theorem lt_of_cell_b {w : World} {a : Addr} {v : Value} (h : w.cell? a = some v) : a.block < w.heap.size := by
  rcases Nat.lt_or_ge a.block w.heap.size with hl | hl
  · exact hl
  · have e : w.heap[a.block]? = none := Array.getElem?_eq_none hl
    simp [World.cell?, e] at h
/-- Bytes that come in. -/
def BytesIn (W : World) (A : Option Addr) (len c : Nat) : Prop := len ≤ 9223372036854775807 ∧ (len ≤ 4611686018427387904 → ∃ xs : List Nat, xs.length = len ∧ (∀ x ∈ xs, x < 256) ∧ RdM W (.slice A len c) xs)
theorem bytes_cell {H : Type} {enc : TypeId × Value → H} {P : Program} {W : World} {t e : TypeId} {c0 : Value} {fuel : Nat} {x : DataW H × List MemPlace}
    (ht : P.underlying t = some (.slice e)) (he : P.underlying e = some (.int .u8)) (hc : P.cellsOf e = 1) (hf : DataW.trod enc P W 0 (fun _ => true) true fuel t [c0] = some x) : ∃ A len c, c0 = .slice A len c ∧ BytesIn W A len c := by
  rcases open_ints ht he hc hf with ⟨hcs, -⟩ | ⟨a, len, cap, zs, hcs, -, hl, hm, hz, -, hcell, hwz⟩
  · obtain rfl : c0 = .slice none 0 0 := by simpa using hcs
    exact ⟨none, 0, 0, rfl, by omega, fun _ => ⟨[], rfl, fun x hx => by simp at hx, none, 0, rfl, by simp, fun i hi => by simp at hi⟩⟩
  · obtain rfl : c0 = .slice (some a) len cap := by simpa using hcs
    unfold maxLen at hm
    simp at hz
    have hb : ∀ j (hj : j < len), 0 ≤ zs[j]'(by omega) ∧ zs[j]'(by omega) < 256 := fun j hj => by
      have hw := hwz _ (List.getElem_mem (show j < zs.length by omega))
      have : 0 ≤ zs[j]'(by omega) ∧ zs[j]'(by omega) ≤ 255 := by
        simpa [Lit.wf, IntKind.min, IntKind.max, IntKind.signed, IntKind.bits] using hw
      omega
    refine ⟨some a, len, cap, rfl, by omega, fun h62 => ⟨(zs.take len).map Int.toNat, by simp; omega, ?_, some a, cap, by simp; omega, by simp; omega, fun i hi => ⟨a, rfl, ?_, ?_⟩⟩⟩
    · intro x hx
      obtain ⟨j, hj, rfl⟩ := List.getElem_of_mem hx
      simp at hj ⊢
      have := hb j (by omega)
      omega
    · have h1 := lt_of_cell_b (hcell i (by simp at hi; omega))
      rw [addr_addb] at h1
      exact h1
    · have hi2 : i < len := by simp at hi; omega
      have h1 := hcell i (by omega)
      have h2 := hb i hi2
      rw [h1]
      unfold b8v
      simp [List.getD, List.getElem?_eq_getElem (show i < zs.length by omega)]
      omega
theorem bytes_in {H : Type} {enc : TypeId × Value → H} {P : Program} {W : World} {t e : TypeId} {A : Option Addr} {len cap : Nat} {d : DataW H} {p : List MemPlace}
    (ht : P.underlying t = some (.slice e)) (he : P.underlying e = some (.int .u8)) (hc : P.cellsOf e = 1) (h : DataW.Trod enc P W 0 (fun _ => true) true t (.slice A len cap) d p) : BytesIn W A len cap := by
  obtain ⟨fuel, hf⟩ := h
  obtain ⟨A2, len2, c2, e2, hn⟩ := bytes_cell ht he hc (show DataW.trod enc P W 0 (fun _ => true) true fuel t [.slice A len cap] = some (d, p) from hf)
  injection e2 with h1 h2 h3
  subst h1 h2 h3
  exact hn
end Go.Proofs.Ytlkkobffgbjkpaa
