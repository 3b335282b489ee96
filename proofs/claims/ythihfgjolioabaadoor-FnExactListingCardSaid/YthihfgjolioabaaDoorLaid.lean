/-
  What the listed package-level variables give a walk: strconv's table of powers of ten.
-/
import Derived.Test.YthihfgjolioabaaDoorRows
import Derived.Test.YthihfgjolioabaaDoorOwn
import Derived.Lib.LaidTab
import Derived.Lib.ItoaNum
import Derived.Stop.LaidErr
import Derived.MakeChecks
namespace Go.Proofs.YthihfgjolioabaaDoor
open Go.ChangeShapes Go.WideShapes Go.ChangeAt Go.RowKit

theorem gPow : Tryd.prog.globalNamed "internal/strconv.uint64pow10" = some 2 := by kernel_rfl
theorem tPow : (Tryd.prog.globals[2]?).map (·.type) = some 92 := by kernel_rfl
theorem pow_eq : Rows.laid_internal_strconv_uint64pow10 = Lib.tabData (H := Unit) .u64 Lib.pow10Tab := by kernel_rfl
theorem cPow : Tryd.prog.cellsOf 92 = 20 := by kernel_rfl
theorem cPowE : Tryd.prog.cellsOf 84 = 1 := by kernel_rfl

abbrev tabs : List (String × DataW Unit) := [("math/bits.deBruijn32tab", Rows.laid_math_bits_deBruijn32tab), ("math/bits.deBruijn64tab", Rows.laid_math_bits_deBruijn64tab), ("internal/strconv.uint64pow10", Rows.laid_internal_strconv_uint64pow10)]

theorem pow_of_laid {W : World} {rest : List (String × DataW Unit)} (h : laidMet Tryd.prog (tabs ++ rest) W) : Lib.TabIs Tryd.prog W "internal/strconv.uint64pow10" .u64 Lib.pow10Tab := by
  have h2 := (laidMet.tail (laidMet.tail h))
  rw [pow_eq] at h2
  exact Lib.tabIs_of_head gPow tPow Tryd.underlying92 Tryd.underlying84 cPowE cPow h2
theorem tab_below {W W' : World} (h : Lib.TabIs Tryd.prog W "internal/strconv.uint64pow10" .u64 Lib.pow10Tab) (hb : Below W.heap.size W W') : Lib.TabIs Tryd.prog W' "internal/strconv.uint64pow10" .u64 Lib.pow10Tab := var?_below h hb
def debTab : List Int := [0, 1, 56, 2, 57, 49, 28, 3, 61, 58, 42, 50, 38, 29, 17, 4, 62, 47, 59, 36, 45, 43, 51, 22, 53, 39, 33, 30, 24, 18, 12, 5, 63, 55, 48, 27, 60, 41, 37, 16, 46, 35, 44, 21, 52, 32, 23, 11, 54, 26, 40, 15, 34, 20, 31, 10, 25, 14, 19, 9, 13, 8, 7, 6]
theorem gDeb : Tryd.prog.globalNamed "math/bits.deBruijn64tab" = some 4 := by kernel_rfl
theorem tDeb : (Tryd.prog.globals[4]?).map (·.type) = some 97 := by kernel_rfl
theorem deb_eq : Rows.laid_math_bits_deBruijn64tab = Lib.tabData (H := Unit) .u8 debTab := by kernel_rfl
theorem cDeb : Tryd.prog.cellsOf 97 = 64 := by kernel_rfl
theorem cDebE : Tryd.prog.cellsOf 5 = 1 := by kernel_rfl
/-- What math/bits reads of its table where it is asked for 16. -/
theorem deb_of_laid {W : World} {rest : List (String × DataW Unit)} (h : laidMet Tryd.prog (tabs ++ rest) W) : W.cell? ⟨4, 15, none⟩ = some (.int .u8 4) ∧ 4 < W.heap.size := by
  have h2 := laidMet.tail h
  rw [deb_eq] at h2
  have ht : Lib.TabIs Tryd.prog W "math/bits.deBruijn64tab" .u8 debTab := Lib.tabIs_of_head gDeb tDeb Tryd.underlying97 Tryd.underlying5 cDebE cDeb h2
  have hc : W.cell? ⟨4, 15, none⟩ = some (.int .u8 4) := ht.cell gDeb 15 (by decide)
  refine ⟨hc, ?_⟩
  rcases Nat.lt_or_ge 4 W.heap.size with hl | hl
  · exact hl
  · have e : W.heap[4]? = none := Array.getElem?_eq_none hl
    simp [World.cell?, e] at hc
/-- The door's own heap meets the condition. -/
theorem tabs_met (os : Os) (args : Array Value) : laidMetH Tryd.prog tabs ((World.doorLaid Tryd.prog 400 os).forCall (fun _ _ => 0) ⟨#[], args, []⟩).memory :=
  laidMetH_of_parts3 (fuel := 8) (laidMet_of_run' 8 (by kernel_rfl) (by kernel_rfl)) (by kernel_rfl) (by kernel_rfl)
theorem tabs_plain (W : World) : laidMetH Tryd.prog tabs W = laidMet Tryd.prog (tabs ++ []) W := MakeChecks.laidMetH_plain _ _ _ (by kernel_rfl)
end Go.Proofs.YthihfgjolioabaaDoor
