/-
  A list of steps that comes in, opened.
-/
import Derived.Test.YthihfgjolioabaaDoorInsW
import Derived.Test.YthihfgjolioabaaDoorLaw
import Derived.Deep.Slices
namespace Go.Proofs.YthihfgjolioabaaDoor
open Go.ChangeShapes Go.WideShapes Go.ChangeAt Go.RowKit Go

theorem lt_of_cell_i {w : World} {a : Addr} {v : Value} (h : w.cell? a = some v) : a.block < w.heap.size := by
  rcases Nat.lt_or_ge a.block w.heap.size with hl | hl
  · exact hl
  · have e : w.heap[a.block]? = none := Array.getElem?_eq_none hl
    simp [World.cell?, e] at h
theorem wf64i (n : Int) (h : (Lit.int .i64 n).wf = true) : -9223372036854775808 ≤ n ∧ n ≤ 9223372036854775807 := by
  simp [Lit.wf, IntKind.min, IntKind.max, IntKind.signed, IntKind.bits] at h
  omega
/-- A list of steps that comes in. -/
def InsIn (W : World) (A : Option Addr) (len c : Nat) : Prop :=
  len ≤ 9223372036854775807 ∧ (len ≤ 4611686018427387904 → ∃ xs : List (Int × Int), xs.length = len ∧ (∀ x ∈ xs, (-9223372036854775808 ≤ x.1 ∧ x.1 ≤ 9223372036854775807) ∧ (-9223372036854775808 ≤ x.2 ∧ x.2 ≤ 9223372036854775807)) ∧ RdIc W (.slice A len c) xs)
set_option maxRecDepth 100000 in
theorem ins_cell {H : Type} {enc : TypeId × Value → H} {W : World} {c0 : Value} {fuel : Nat} {x : DataW H × List MemPlace}
    (hf : DataW.trod enc Tryd.prog W 0 (fun _ => true) true fuel 28 [c0] = some x) : ∃ A len c, c0 = .slice A len c ∧ InsIn W A len c := by
  have kz : Tryd.prog.cellsOf 23 = 2 := by kernel_rfl
  have k1 : Tryd.prog.cellsOf 3 = 1 := by kernel_rfl
  have k2 : Tryd.prog.cellsOf 3 = 1 := by kernel_rfl
  rcases Go.Deep.open_slice Tryd.underlying28 hf with ⟨hcs, -⟩ | ⟨a, len, cap, m, n, D, Pl, hcs, -, hl, hm, hmm, -, hi⟩
  · obtain rfl : c0 = .slice none 0 0 := by simpa using hcs
    exact ⟨none, 0, 0, rfl, by omega, fun _ => ⟨[], rfl, fun x hx => by simp at hx, none, 0, rfl, by simp, fun i hi => by simp at hi⟩⟩
  · obtain rfl : c0 = .slice (some a) len cap := by simpa using hcs
    unfold maxLen at hm
    have hlm : len ≤ m := by rw [hmm]; split <;> omega
    have key : ∀ i, i < len → ∃ u z : Int, ((-9223372036854775808 ≤ u ∧ u ≤ 9223372036854775807) ∧ (-9223372036854775808 ≤ z ∧ z ≤ 9223372036854775807)) ∧ W.cell? (a.add (i * 2)) = some (.int .i64 u) ∧ W.cell? ((a.add (i * 2)).add 1) = some (.int .i64 z) := by
      intro i hil
      obtain ⟨cs', hcc, htr⟩ := hi i (by omega)
      rw [kz] at hcc
      obtain ⟨_, hcl, hat⟩ := World.cells?_some hcc
      obtain ⟨ys, n', _, _, _, hyl, hff⟩ := DataW.trod_struct Tryd.underlying23 htr
      match cs', hcl with
      | [y0, y1], _ =>
        have l2 : ys.length = 2 := hyl
        have f0 : DataW.trod enc Tryd.prog W 0 (fun _ => true) true n' 3 (([y0, y1].drop 0).take (Tryd.prog.cellsOf 3)) = some (ys[0]'(by omega)) := (hff 0 _ rfl).trans (List.getElem?_eq_getElem (show 0 < ys.length by omega))
        have f1 : DataW.trod enc Tryd.prog W 0 (fun _ => true) true n' 3 (([y0, y1].drop 1).take (Tryd.prog.cellsOf 3)) = some (ys[1]'(by omega)) := (hff 1 _ rfl).trans (List.getElem?_eq_getElem (show 1 < ys.length by omega))
        rw [k1] at f0
        rw [k2] at f1
        obtain ⟨u, hu, -, wu⟩ := DataW.trod_int Tryd.underlying3 f0
        obtain ⟨z, hz, -, wz⟩ := DataW.trod_int Tryd.underlying3 f1
        have hu' : y0 = .int .i64 u := by simpa using hu
        have hz' : y1 = .int .i64 z := by simpa using hz
        refine ⟨u, z, ⟨wf64i u wu, wf64i z wz⟩, ?_, ?_⟩
        · have := hat 0 (by omega)
          rw [show (a.add (i * 2)).add 0 = a.add (i * 2) by simp [Addr.add]] at this
          rw [this, hu']
          rfl
        · rw [hat 1 (by omega), hz']
          rfl
    refine ⟨some a, len, cap, rfl, by omega, fun h62 => ?_⟩
    obtain ⟨f, hfx⟩ : ∃ f : Nat → Int × Int, ∀ i, i < len → ((-9223372036854775808 ≤ (f i).1 ∧ (f i).1 ≤ 9223372036854775807) ∧ (-9223372036854775808 ≤ (f i).2 ∧ (f i).2 ≤ 9223372036854775807)) ∧ W.cell? (a.add (i * 2)) = some (.int .i64 (f i).1) ∧ W.cell? ((a.add (i * 2)).add 1) = some (.int .i64 (f i).2) := by
      refine ⟨fun i => if h : i < len then (Classical.choose (key i h), Classical.choose (Classical.choose_spec (key i h))) else (0, 0), fun i h => ?_⟩
      have hs := Classical.choose_spec (Classical.choose_spec (key i h))
      simp only [dif_pos h]
      exact hs
    refine ⟨(List.range len).map f, by simp, fun x hx => ?_, some a, cap, by simp, by simp; omega, fun i hi => ?_⟩
    · obtain ⟨i, hi, rfl⟩ := List.mem_map.1 hx
      exact (hfx i (List.mem_range.1 hi)).1
    · have hil : i < len := by simpa using hi
      have h3 := (hfx i hil).2
      refine ⟨a, rfl, ?_, by simpa using h3.1, by simpa using h3.2⟩
      have h1 := lt_of_cell_i h3.1
      rw [addr_addb] at h1
      exact h1
theorem ins_in {H : Type} {enc : TypeId × Value → H} {W : World} {A : Option Addr} {len cap : Nat} {d : DataW H} {p : List MemPlace}
    (h : DataW.Trod enc Tryd.prog W 0 (fun _ => true) true 28 (.slice A len cap) d p) : InsIn W A len cap := by
  obtain ⟨fuel, hf⟩ := h
  obtain ⟨A2, len2, c2, e2, hn⟩ := ins_cell (show DataW.trod enc Tryd.prog W 0 (fun _ => true) true fuel 28 [.slice A len cap] = some (d, p) from hf)
  injection e2 with h1 h2 h3
  subst h1 h2 h3
  exact hn
end Go.Proofs.YthihfgjolioabaaDoor
