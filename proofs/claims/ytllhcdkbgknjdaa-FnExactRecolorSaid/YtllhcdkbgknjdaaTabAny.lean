/-
  Package-level tables of numbers of which nothing is known but that they hold numbers of their kinds.
-/
import Derived.Test.YtllhcdkbgknjdaaOwn
import GoSem.Claims
namespace Go.Proofs.Ytllhcdkbgknjdaa
open Go.RowKit Go

theorem lt_of_cell_tab {w : World} {a : Addr} {v : Value} (h : w.cell? a = some v) : a.block < w.heap.size := by
  rcases Nat.lt_or_ge a.block w.heap.size with hl | hl
  · exact hl
  · have e : w.heap[a.block]? = none := Array.getElem?_eq_none hl
    simp [World.cell?, e] at h
theorem cells_of_shape {P : Program} {w : World} {g : Nat} {t u : TypeId} {zero : Array Value} {k : IntKind} {n : Nat}
    (h : w.ShapedOpen P) (hg : g < P.globals.size)
    (h0 : ((begin P (fun _ _ => 0) default).world.heap[g]?).bind Obj.row? = some (zero, t)) (hz : zero.size = n)
    (hb : P.buildable t = true) (hc : P.cellTypes P.depth t = some (List.replicate n u)) (hu : P.underlying u = some (.int k)) :
    ∀ i, i < n → ∃ m, w.cell? ⟨g, i, none⟩ = some (.int k m) ∧ k.has m := by
  intro i hi
  obtain ⟨cs, hh, hs, hr⟩ := h.1 g zero t hg h0
  obtain ⟨ts, hts, _, hall⟩ := hr hb
  rw [hc] at hts
  cases hts
  have h1 : i < cs.size := by omega
  obtain ⟨u', hu', hok⟩ := hall i cs[i] (by simp [h1])
  have e : u' = u := by
    rw [List.length_replicate, Nat.mod_eq_of_lt hi, List.getElem?_replicate, if_pos hi] at hu'
    exact (Option.some.inj hu').symm
  subst e
  have hcell : w.cell? ⟨g, i, none⟩ = some cs[i] := by simp [World.cell?, hh, h1]
  rw [hcell]
  unfold Cell.ok at hok
  rw [hu] at hok
  cases hv : cs[i] <;> rw [hv] at hok <;> simp at hok
  case int k' m => exact ⟨m, by rw [hok.1], hok.2⟩

/-- The tables hold numbers of their kinds. -/
def TabsAny (w : World) : Prop :=
  (∀ i, i < 10 → ∃ x : Nat, x < 4294967296 ∧ w.cell? ⟨0, i, none⟩ = some (.int .u32 x)) ∧
  ∀ i, i < 48 → ∃ x : Nat, x < 256 ∧ w.cell? ⟨1, i, none⟩ = some (.int .u8 x)
theorem TabsAny.below {w w' : World} (h : TabsAny w) (hb : Below w.heap.size w w') : TabsAny w' :=
  ⟨fun i hi => by obtain ⟨x, hx, hc⟩ := h.1 i hi; exact ⟨x, hx, (hb.cell (lt_of_cell_tab hc)).trans hc⟩,
   fun i hi => by obtain ⟨x, hx, hc⟩ := h.2 i hi; exact ⟨x, hx, (hb.cell (lt_of_cell_tab hc)).trans hc⟩⟩
theorem zTags : ((begin Try.prog (fun _ _ => 0) default).world.heap[0]?).bind Obj.row? = some ((List.replicate 10 (Value.int .u32 0)).toArray, 101) := by kernel_rfl
theorem zCodes : ((begin Try.prog (fun _ _ => 0) default).world.heap[1]?).bind Obj.row? = some ((List.replicate 48 (Value.int .u8 0)).toArray, 104) := by kernel_rfl
theorem tabs_of_shape {w : World} (h : w.ShapedOpen Try.prog) : TabsAny w := by
  have h1 := cells_of_shape (n := 10) h (of_decide_eq_true (by kernel_rfl)) zTags (by simp) (by kernel_rfl) (by kernel_rfl) Try.underlying24
  have h2 := cells_of_shape (n := 48) h (of_decide_eq_true (by kernel_rfl)) zCodes (by simp) (by kernel_rfl) (by kernel_rfl) Try.underlying5
  refine ⟨fun i hi => ?_, fun i hi => ?_⟩
  · obtain ⟨m, hc, hm⟩ := h1 i hi
    simp [IntKind.has, IntKind.min, IntKind.max, IntKind.signed, IntKind.bits] at hm
    exact ⟨m.toNat, by omega, by rw [hc]; congr 2; omega⟩
  · obtain ⟨m, hc, hm⟩ := h2 i hi
    simp [IntKind.has, IntKind.min, IntKind.max, IntKind.signed, IntKind.bits] at hm
    exact ⟨m.toNat, by omega, by rw [hc]; congr 2; omega⟩
end Go.Proofs.Ytllhcdkbgknjdaa
