/-
  An op that comes in, opened.
-/
import Derived.Test.YthihfgjolioabaaDoorOpenIns
namespace Go.Proofs.YthihfgjolioabaaDoor
open Go.ChangeShapes Go.WideShapes Go.ChangeAt Go.RowKit Go

theorem array2i {α : Type} {cs : Array α} (h : cs.size = 2) : ∃ x0 x1, cs = #[x0, x1] := by
  obtain ⟨l⟩ := cs
  match l, h with
  | [x0, x1], _ => exact ⟨x0, x1, rfl⟩
set_option maxRecDepth 100000 in
theorem ins1_in {H : Type} {enc : TypeId × Value → H} {W : World} {rc : Reach} {base : Nat} {v : Value} {d : DataW H} {p : List MemPlace}
    (hv : Value.okWide Tryd.prog W rc base 23 v) (h : DataW.Trod enc Tryd.prog W 0 (fun _ => true) true 23 v d p) : ∃ x y : Int, v = .agg #[.int .i64 x, .int .i64 y] ∧ -9223372036854775808 ≤ y ∧ y ≤ 9223372036854775807 := by
  obtain ⟨cs, rfl, hsz⟩ := okWide_struct Tryd.underlying23 hv
  obtain ⟨x0, x1, rfl⟩ := array2i (hsz.trans (by kernel_rfl))
  obtain ⟨fuel, hf⟩ := h
  obtain ⟨xs, n, _, hx, hl, hlen, hff⟩ := DataW.trod_struct Tryd.underlying23 hf
  have hlen : xs.length = 2 := hlen
  have q0 : DataW.trod enc Tryd.prog W 0 (fun _ => true) true n 3 [x0] = some (xs[0]'(by omega)) := (hff 0 _ rfl).trans (List.getElem?_eq_getElem (show 0 < xs.length by omega))
  have q1 : DataW.trod enc Tryd.prog W 0 (fun _ => true) true n 3 [x1] = some (xs[1]'(by omega)) := (hff 1 _ rfl).trans (List.getElem?_eq_getElem (show 1 < xs.length by omega))
  obtain ⟨u, hu, -, wu⟩ := DataW.trod_int Tryd.underlying3 q0
  obtain ⟨z, hz, -, wz⟩ := DataW.trod_int Tryd.underlying3 q1
  obtain rfl : x0 = .int .i64 u := by simpa using hu
  obtain rfl : x1 = .int .i64 z := by simpa using hz
  exact ⟨u, z, rfl, wf64i z wz⟩
end Go.Proofs.YthihfgjolioabaaDoor
