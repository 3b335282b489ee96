/-
  What the listed table of signs gives a walk.
-/
import Derived.Test.YthihfgjolioabaaDoorRows
import Derived.Test.YthihfgjolioabaaDoorOwn
import Derived.Test.YthihfgjolioabaaDoorLaid
import Derived.Test.YthihfgjolioabaaDoorInsMath
import Derived.Lib.LaidTab
import Derived.ChangeArms
import Derived.OpenShut
namespace Go.Proofs.YthihfgjolioabaaDoor
open Go.ChangeShapes Go.WideShapes Go.ChangeAt Go.RowKit Go

/-- An array of texts that reads as a list of them holds these texts. -/
theorem cells_of_strsI {H : Type} {enc : TypeId × Value → H} {P : Program} {w : World} {base : Nat} {sp : Nat → Bool} {held : Bool} {fuel : Nat} {t e : TypeId} {n : Nat} {cs : List Value} {zs : List ByteArray} {p : List MemPlace} (ht : P.underlying t = some (.array n e)) (he : P.underlying e = some .string) (hce : P.cellsOf e = 1) (hct : P.cellsOf t = n)
    (h : DataW.trod enc P w base sp held fuel t cs = some (.agg (zs.map fun s => .lit (.string s.data.toList)), p)) : cs = zs.map Value.string := by
  obtain ⟨xs, m, -, hx, hl, hn, hi⟩ := DataW.trod_array ht h
  injection hx with hx _
  injection hx with hx
  have hzl : zs.length = n := by have := congrArg List.length hx; simp at this; omega
  rw [hct] at hl
  apply List.ext_getElem?
  intro i
  by_cases hin : i < n
  · have hf := hi i hin
    rw [hce, Nat.mul_one, List.getElem?_eq_getElem (by omega)] at hf
    obtain ⟨s, hc, hxs, -⟩ := DataW.trod_string he hf
    have h1 : cs[i]? = some (.string s) := by
      have := congrArg (·[0]?) hc
      simpa [List.getElem?_take, List.getElem?_drop] using this
    have h2 := congrArg (·[i]?) hx
    simp only [List.getElem?_map] at h2
    rw [List.getElem?_eq_getElem (show i < xs.length by omega), List.getElem?_eq_getElem (show i < zs.length by omega), hxs] at h2
    simp only [Option.map_some, Option.some.injEq, DataW.lit.injEq, Lit.string.injEq] at h2
    have h3 : zs[i]'(by omega) = s := Go.WideShapes.bytes_inj h2
    rw [h1, List.getElem?_map, List.getElem?_eq_getElem (by omega), h3]
    rfl
  · rw [List.getElem?_eq_none (by omega), List.getElem?_eq_none (by simp; omega)]
theorem gInsW : Tryd.prog.globalNamed "loop.example/g00711/impl.insSigns" = some 0 := by kernel_rfl
theorem tInsW : (Tryd.prog.globals[0]?).map (·.type) = some 38 := by kernel_rfl
theorem cInsW : Tryd.prog.cellsOf 38 = 10 := by kernel_rfl
theorem cInsWE : Tryd.prog.cellsOf 9 = 1 := by kernel_rfl
theorem insw_eq : Rows.laid_loop_example_g00711_impl_insSigns (H := Unit) = .agg (insL.map fun s => .lit (.string s.data.toList)) := by rfl
/-- The table of signs lies in memory. -/
def InsW (W : World) : Prop := W.var? Tryd.prog "loop.example/g00711/impl.insSigns" = some (insL.map Value.string).toArray
theorem insw_of_head {W : World} {rest : List (String × DataW Unit)} (h : laidMet Tryd.prog (("loop.example/g00711/impl.insSigns", Rows.laid_loop_example_g00711_impl_insSigns) :: rest) W) : InsW W := by
  obtain ⟨ps, ⟨g', t', cs, fuel, p, q, hg', ht', hvar, hd, _, _⟩, _⟩ := h
  obtain rfl := Option.some.inj (gInsW.symm.trans hg')
  obtain rfl := Option.some.inj (tInsW.symm.trans ht')
  rw [insw_eq] at hd
  unfold InsW
  rw [hvar, ← cells_of_strsI Tryd.underlying38 Tryd.underlying9 cInsWE cInsW hd]
theorem InsW.below {W W' : World} (h : InsW W) (hb : Below W.heap.size W W') : InsW W' := var?_below h hb
theorem InsW.cell {W : World} (h : InsW W) (i : Nat) : W.cell? ⟨0, i, none⟩ = ((insL.map Value.string).toArray)[i]? := World.var?_cell gInsW h i
end Go.Proofs.YthihfgjolioabaaDoor
