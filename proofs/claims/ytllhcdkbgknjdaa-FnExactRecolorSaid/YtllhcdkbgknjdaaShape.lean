/-
  The shapes of items: what their methods answer, whatever the tables hold.
-/
import Derived.Test.YtllhcdkbgknjdaaPackAny
import Derived.Test.YtllhcdkbgknjdaaColorMath
import Derived.RegionTactic
import Derived.ChangeAlike
import Derived.Handy
namespace Go.Proofs.Ytllhcdkbgknjdaa
open Go.RowKit Go

abbrev itA (k : Int) (nm : ByteArray) (n : Int) (hx : Bool) (r : Int) : Value := .agg #[.int .i64 k, .string nm, .int .i32 n, .bool hx, .int .u32 r]

theorem bare_any (k : Int) (w : World) : Calls Try.prog 65 #[.agg #[.int .i64 k]] w fun e w' => e = .returned (itA k ⟨#[]⟩ 0 false 0) ∧ Below w.heap.size w w' := by
  go_enter Try.func65, Try.ntmps65
  go_wp2_with fail
  exact bodyPost_ret (v := itA k ⟨#[]⟩ 0 false 0) (by simp [results, Try.results65, go_sem]) rfl ⟨rfl, (((Below.refl _ _).alloc (Nat.le_refl _) _).alloc (by simp) _)⟩
theorem tag_any (k : Int) (h0 : 0 ≤ k) (h1 : k ≤ 9) (w : World) (hc : TabsAny w) : Calls Try.prog 61 #[.agg #[.int .i64 k]] w fun e w' => (∃ x : Nat, e = .returned (.int .u32 x) ∧ x < 4294967296) ∧ Below w.heap.size w w' := by
  obtain ⟨n, rfl⟩ : ∃ n : Nat, k = n := ⟨k.toNat, by omega⟩
  obtain ⟨x, hx, hcell⟩ := hc.1 n (by omega)
  have hn : n < 10 := by omega
  have hlt := lt_of_cell_tab hcell
  have hcell2 := ((Below.refl w.heap.size w).alloc (Nat.le_refl _) (.cells #[.int .i64 (n : Int)] 60)).cell hlt |>.trans hcell
  clear hc h0 h1
  go_enter Try.func61, Try.ntmps61
  go_wp2_with fail
  go_ret
  exact ⟨⟨x, rfl, hx⟩, (Below.refl _ _).alloc (Nat.le_refl _) _⟩

def itC (k : Int) (nm : ByteArray) (n : Int) (hx : Bool) (r : Int) : Array Value := #[.int .i64 k, .string nm, .int .i32 n, .bool hx, .int .u32 r]
theorem itC_cells {w : World} {g : Nat} {t : TypeId} {k : Int} {nm : ByteArray} {n : Int} {hx : Bool} {r : Int} (h : Blk w g t (itC k nm n hx r)) :
    w.cell? ⟨g, 0, none⟩ = some (.int .i64 k) ∧ w.cell? ⟨g, 1, none⟩ = some (.string nm) ∧ w.cell? ⟨g, 2, none⟩ = some (.int .i32 n) ∧ w.cell? ⟨g, 3, none⟩ = some (.bool hx) ∧ w.cell? ⟨g, 4, none⟩ = some (.int .u32 r) ∧
    w.frozen? ⟨g, 0, none⟩ = false ∧ w.frozen? ⟨g, 1, none⟩ = false ∧ w.frozen? ⟨g, 2, none⟩ = false ∧ w.frozen? ⟨g, 3, none⟩ = false ∧ w.frozen? ⟨g, 4, none⟩ = false :=
  ⟨h.cell 0, h.cell 1, h.cell 2, h.cell 3, h.cell 4, h.frozen 0, h.frozen 1, h.frozen 2, h.frozen 3, h.frozen 4⟩

theorem two_boxes {w w1 : World} {cs1 cs2 : Array Value} {t1 t2 : TypeId} (hb : Below ((w.alloc (.cells cs1 t1)).alloc (.cells cs2 t2)).heap.size ((w.alloc (.cells cs1 t1)).alloc (.cells cs2 t2)) w1) :
    Blk w1 w.heap.size t1 cs1 ∧ Blk w1 (w.heap.size + 1) t2 cs2 ∧ Below w.heap.size w w1 ∧ w.heap.size + 2 ≤ w1.heap.size := by
  have e : (w.alloc (.cells cs1 t1)).heap.size = w.heap.size + 1 := by simp
  have h2 := (Blk.new (w.alloc (.cells cs1 t1)) t2 cs2).below hb (by simp)
  rw [e] at h2
  exact ⟨((Blk.new w t1 cs1).alloc (.cells cs2 t2)).below hb (by simp; omega), h2, (((Below.refl _ _).alloc (Nat.le_refl _) _).alloc (by simp) _).trans (hb.mono (by simp; omega)), by have := hb.size; simp at this; omega⟩

/-- An item is stored over another one. -/
theorem item_put {w : World} {g : Nat} {t : TypeId} {k0 : Int} {nm0 : ByteArray} {n0 : Int} {hx0 : Bool} {r0 : Int} (h : Blk w g t (itC k0 nm0 n0 hx0 r0)) (k : Int) (nm : ByteArray) (n : Int) (hx : Bool) (r : Int) :
    Blk (((((w.setCell ⟨g, 0, none⟩ (.int .i64 k)).setCell ⟨g, 1, none⟩ (.string nm)).setCell ⟨g, 2, none⟩ (.int .i32 n)).setCell ⟨g, 3, none⟩ (.bool hx)).setCell ⟨g, 4, none⟩ (.int .u32 r)) g t (itC k nm n hx r) :=
  ((((h.put 0 (.int .i64 k)).put 1 (.string nm)).put 2 (.int .i32 n)).put 3 (.bool hx)).put 4 (.int .u32 r)
theorem item_result {w : World} {g : Nat} {t : TypeId} {k0 : Int} {nm0 : ByteArray} {n0 : Int} {hx0 : Bool} {r0 : Int} (h : Blk w g t (itC k0 nm0 n0 hx0 r0)) (k : Int) (nm : ByteArray) (n : Int) (hx : Bool) (r : Int) (o : Obj) (i : Nat) :
    ((((((w.setCell ⟨g, 0, none⟩ (.int .i64 k)).setCell ⟨g, 1, none⟩ (.string nm)).setCell ⟨g, 2, none⟩ (.int .i32 n)).setCell ⟨g, 3, none⟩ (.bool hx)).setCell ⟨g, 4, none⟩ (.int .u32 r)).alloc o).cell? ⟨g, i, none⟩ = (itC k nm n hx r)[i]? :=
  ((item_put h k nm n hx r).alloc o).cell i
end Go.Proofs.Ytllhcdkbgknjdaa
