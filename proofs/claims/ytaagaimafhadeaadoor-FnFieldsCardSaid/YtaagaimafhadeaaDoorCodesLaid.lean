/-
  What the listed package-level variable impl.codes gives a walk: the codes of the letters.
-/
import Derived.Test.YtaagaimafhadeaaDoorOwn
import Derived.Lib.LaidTab
namespace Go.Proofs.YtaagaimafhadeaaDoor
open Go.RowKit

def codesTab : List Int := [0, 1, 2, 3, 4, 5, 6, 7, 16, 17, 18, 19, 20, 21, 22, 23, 96, 97, 98, 99, 100, 101, 102, 103, 104, 105, 106, 107, 108, 109, 110, 111, 112, 113, 114, 115, 116, 117, 118, 119, 120, 121, 122, 123, 124, 125, 126, 127]
theorem gCodes : Tryd.prog.globalNamed "loop.example/g00711/impl.codes" = some 0 := by kernel_rfl
theorem tCodes : (Tryd.prog.globals[0]?).map (·.type) = some 62 := by kernel_rfl
theorem codes_eq : Rows.laid_loop_example_g00711_impl_codes = Lib.tabData (H := Unit) .u8 codesTab := by kernel_rfl
theorem cCodes : Tryd.prog.cellsOf 62 = 48 := by kernel_rfl
theorem cCodesE : Tryd.prog.cellsOf 5 = 1 := by kernel_rfl

/-- The variable holds the codes. -/
def Codes (w : World) : Prop := 0 < w.heap.size ∧ w.var? Tryd.prog "loop.example/g00711/impl.codes" = some (codesTab.map fun z => Value.int .u8 z).toArray
theorem codes_of_laid {W : World} {rest : List (String × DataW Unit)} (h : laidMet Tryd.prog (("loop.example/g00711/impl.codes", Rows.laid_loop_example_g00711_impl_codes) :: rest) W) : Codes W := by
  rw [codes_eq] at h
  have ht : Lib.TabIs Tryd.prog W "loop.example/g00711/impl.codes" .u8 codesTab := Lib.tabIs_of_head gCodes tCodes Tryd.underlying62 Tryd.underlying5 cCodesE cCodes h
  refine ⟨?_, ht⟩
  have hc : W.cell? ⟨0, 0, none⟩ = some (.int .u8 0) := ht.cell gCodes 0 (by decide)
  rcases Nat.lt_or_ge 0 W.heap.size with hl | hl
  · exact hl
  · have e : W.heap[0]? = none := Array.getElem?_eq_none hl
    simp [World.cell?, e] at hc
theorem Codes.below {w w' : World} (h : Codes w) (hb : Below w.heap.size w w') : Codes w' := ⟨Nat.lt_of_lt_of_le h.1 hb.size, var?_below h.2 hb⟩
theorem Codes.cell {w : World} (h : Codes w) (i : Nat) (hi : i < codesTab.length) : w.cell? ⟨0, i, none⟩ = some (.int .u8 (codesTab.getD i 0)) := Lib.TabIs.cell (zs := codesTab) h.2 gCodes i hi
end Go.Proofs.YtaagaimafhadeaaDoor
