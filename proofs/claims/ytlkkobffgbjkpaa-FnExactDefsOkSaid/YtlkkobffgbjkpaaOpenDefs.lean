/-
  A list of definitions that comes in, opened.
-/
import Derived.Test.YtlkkobffgbjkpaaDefs
import Derived.Test.YtlkkobffgbjkpaaOpenOps
import Derived.Deep.Slices
import Derived.ChangeArms
namespace Go.Proofs.Ytlkkobffgbjkpaa
open Go.ChangeShapes Go.WideShapes Go.ChangeAt Go.RowKit Go

set_option maxRecDepth 100000 in
theorem defs_in {H : Type} {enc : TypeId × Value → H} {W : World} {A : Option Addr} {len cap : Nat} {d : DataW H} {p : List MemPlace}
    (h : DataW.Trod enc Try.prog W 0 (fun _ => true) true 36 (.slice A len cap) d p) : DefsIn W A len := by
  have kz : Try.prog.cellsOf 90 = 2 := by kernel_rfl
  have k1 : Try.prog.cellsOf 9 = 1 := by kernel_rfl
  have k2 : Try.prog.cellsOf 32 = 1 := by kernel_rfl
  obtain ⟨fuel, hf⟩ := h
  rcases Go.Deep.open_slice Try.underlying36 (show DataW.trod enc Try.prog W 0 (fun _ => true) true fuel 36 [.slice A len cap] = some (d, p) from hf) with ⟨hcs, -⟩ | ⟨a, len2, cap2, m, n, D, Pl, hcs, -, hl, hm, hmm, -, hi⟩
  · injection hcs with hcs _
    injection hcs with e1 e2 e3
    subst e1 e2 e3
    exact ⟨by omega, fun _ => default, fun i hi => by omega⟩
  · injection hcs with hcs _
    injection hcs with e1 e2 e3
    subst e1 e2 e3
    unfold maxLen at hm
    have hlm : len ≤ m := by rw [hmm]; split <;> omega
    have key : ∀ i, i < len → ∃ x : ByteArray × Option Addr × Nat × Nat, W.cell? (a.add (i * 2)) = some (.string x.1) ∧ W.cell? ((a.add (i * 2)).add 1) = some (.slice x.2.1 x.2.2.1 x.2.2.2) ∧ x.1.size ≤ 9223372036854775807 ∧ OpsIn W x.2.1 x.2.2.1 x.2.2.2 := by
      intro i hil
      obtain ⟨cs', hcc, htr⟩ := hi i (by omega)
      rw [kz] at hcc
      obtain ⟨_, hcl, hat⟩ := World.cells?_some hcc
      obtain ⟨ys, n', _, _, _, hyl, hff⟩ := DataW.trod_struct Try.underlying90 htr
      match cs', hcl with
      | [y0, y1], _ =>
        have l2 : ys.length = 2 := hyl
        have f0 : DataW.trod enc Try.prog W 0 (fun _ => true) true n' 9 (([y0, y1].drop 0).take (Try.prog.cellsOf 9)) = some (ys[0]'(by omega)) := (hff 0 _ rfl).trans (List.getElem?_eq_getElem (show 0 < ys.length by omega))
        have f1 : DataW.trod enc Try.prog W 0 (fun _ => true) true n' 32 (([y0, y1].drop 1).take (Try.prog.cellsOf 32)) = some (ys[1]'(by omega)) := (hff 1 _ rfl).trans (List.getElem?_eq_getElem (show 1 < ys.length by omega))
        rw [k1] at f0
        rw [k2] at f1
        obtain ⟨s, hs, -, ws⟩ := DataW.trod_string Try.underlying9 f0
        have hs' : y0 = .string s := by simpa using hs
        obtain ⟨A2, n2, c2, hy1, ho⟩ := ops_cell (show DataW.trod enc Try.prog W 0 (fun _ => true) true n' 32 [y1] = some (ys[1]'(by omega)) from f1)
        refine ⟨(s, A2, n2, c2), ?_, ?_, by unfold maxLen at ws; exact ws, ho⟩
        · have := hat 0 (by omega)
          rw [show (a.add (i * 2)).add 0 = a.add (i * 2) by simp [Addr.add]] at this
          rw [this, hs']
          rfl
        · rw [hat 1 (by omega), hy1]
          rfl
    obtain ⟨f, hfx⟩ := Go.Deep.choose_lt key
    refine ⟨by omega, f, fun i hil => ?_⟩
    obtain ⟨h1, h2, h3, h4⟩ := hfx i hil
    refine ⟨a, rfl, ?_, h1, h2, h3, h4⟩
    have h5 := lt_of_cell_p h1
    rw [addr_addb] at h5
    exact h5
end Go.Proofs.Ytlkkobffgbjkpaa
