/-
  What the listed package-level variables give a walk: strconv's two errors.
-/
import Derived.Test.YtfldaknhdggdiaaDoorLaid
namespace Go.Proofs.YtfldaknhdggdiaaDoor
open Go.ChangeShapes Go.WideShapes Go.ChangeAt Go.RowKit

abbrev tabsErr : List (String × DataW Unit) := [("math/bits.deBruijn32tab", Rows.laid_math_bits_deBruijn32tab), ("math/bits.deBruijn64tab", Rows.laid_math_bits_deBruijn64tab), ("internal/strconv.uint64pow10", Rows.laid_internal_strconv_uint64pow10), ("strconv.ErrRange", Rows.laid_strconv_ErrRange), ("strconv.ErrSyntax", Rows.laid_strconv_ErrSyntax)]
theorem gSyn : Tryd.prog.globalNamed "strconv.ErrSyntax" = some 0 := by kernel_rfl
theorem gRan : Tryd.prog.globalNamed "strconv.ErrRange" = some 1 := by kernel_rfl
theorem tSyn : (Tryd.prog.globals[0]?).map (·.type) = some 42 := by kernel_rfl
theorem tRan : (Tryd.prog.globals[1]?).map (·.type) = some 42 := by kernel_rfl

/-- A listed variable of an interface type, laid with a value, holds an interface value. -/
theorem iface_of_head {P : Program} {n nm : String} {d : DataW Unit} {r : List (String × DataW Unit)} {W : World} {g : Nat} {ti : TypeId} {ms : Array (String × TypeId)}
    (h : laidMet P ((n, .iface nm d) :: r) W) (hg : P.globalNamed n = some g) (ht : (P.globals[g]?).map (·.type) = some ti) (hi : P.underlying ti = some (.interface ms)) : ∃ t p, W.cell? ⟨g, 0, none⟩ = some (.iface t p) := by
  obtain ⟨ps, ⟨g0, t0, cs0, f0, p0, q0, hg0, ht0, hv0, hd0, _, e0⟩, _, hrows⟩ := h
  obtain rfl := Option.some.inj (hg.symm.trans hg0)
  obtain rfl := Option.some.inj (ht.symm.trans ht0)
  obtain ⟨l0⟩ := cs0
  cases f0 with
  | zero => simp [DataW.trod] at hd0
  | succ f =>
    have hc := fun i => World.var?_cell hg0 hv0 i
    rcases l0 with _ | ⟨v, _ | ⟨v2, r2⟩⟩
    · simp [DataW.trod, hi] at hd0
    · cases v
      case iface u x => exact ⟨u, x, by simpa using hc 0⟩
      all_goals simp [DataW.trod, hi] at hd0
    · simp [DataW.trod, hi] at hd0
theorem errs_of_laid {W : World} (h : laidMet Tryd.prog (tabsErr ++ []) W) : (∃ t p, W.cell? ⟨0, 0, none⟩ = some (.iface t p)) ∧ (∃ t p, W.cell? ⟨1, 0, none⟩ = some (.iface t p)) := by
  have h3 := laidMet.tail (laidMet.tail (laidMet.tail h))
  exact ⟨iface_of_head (laidMet.tail h3) gSyn tSyn Tryd.underlying42, iface_of_head h3 gRan tRan Tryd.underlying42⟩
theorem tabsErr_met (os : Os) (args : Array Value) : laidMetH Tryd.prog tabsErr ((World.doorLaid Tryd.prog 400 os).forCall (fun _ _ => 0) ⟨#[], args, []⟩).memory :=
  laidMetH_of_parts3 (fuel := 8) (laidMet_of_run' 8 (by kernel_rfl) (by kernel_rfl)) (by kernel_rfl) (by kernel_rfl)
theorem tabsErr_plain (W : World) : laidMetH Tryd.prog tabsErr W = laidMet Tryd.prog (tabsErr ++ []) W := MakeChecks.laidMetH_plain _ _ _ (by kernel_rfl)
end Go.Proofs.YtfldaknhdggdiaaDoor
