/-
  Colours: which items go over into one another, as plain functions.
  The shapes of items: what their methods answer, whatever the tables hold.
  The item of a word.
  The item of a number.
  The item of a variable.
  The item of a raw cell.
  The cells of a number and of a raw cell: how many there are, whatever the tables hold.
  The cells of a number: how many there are, whatever the tables hold.
  The cells of a variable: how many there are, whatever the tables hold.
  The cells of a word: how many there are, whatever the tables hold.
  Whether two items are alike; what kind of shape an item has.
  The shape of an item, by its kind.
  CellsOf of the program: how many cells there are, whatever the tables hold.
  What the listed package-level variable impl.codes gives a walk: the codes of the letters.
  The items of cells, as plain functions, over a table of tags of which nothing is known: what is parsed unparses to the same cells, with noughts behind them.
  The tables as a law finds them that lists impl.codes and impl.kinds alone: the tags are some numbers of 32 bits, one and the same through the whole call.
  BitsOf of the program answers a letter's code.
  impl.fillField packs as many first letters as fit; PackOne, of the program and of its model, tells the first field of a name.
-/
import Derived.Test.YtllhcdkbgknjdaaDoorOP2
import Derived.RegionTactic
import Derived.ChangeAlike
import Derived.Handy
import Derived.Deep.RegionHeld3
import Derived.Laws.StructEq
import Derived.Test.YtllhcdkbgknjdaaDoorOP1
import Derived.Lib.LaidTab
namespace Go.Proofs.YtllhcdkbgknjdaaDoor
open Go

def zeroIt : It := rawIt 0
def wordK (k : Int) : Bool := decide (1 ≤ k ∧ k ≤ 6)
def numK (k : Int) : Bool := decide (7 ≤ k ∧ k ≤ 8)
def akin (a b : Int) : Bool := decide (a = b) || (wordK a && wordK b) || (numK a && numK b)
def recolOk (it : It) (k : Int) : Bool := decide (cellsOf it ≠ []) && akin it.kind k
def recol (it : It) (k : Int) : It := if recolOk it k = true then { it with kind := k } else zeroIt

theorem cells_words {it : It} (h : 1 ≤ it.kind ∧ it.kind ≤ 6) : cellsOf it = if it.n = 0 ∧ it.hex = false ∧ it.raw = 0 then wordCells (tagW it.kind) (packs it.name.data.toList) else [] := by
  unfold cellsOf
  rw [if_neg (by omega), if_neg (by omega), if_neg (by omega), if_pos h]
theorem cells_nums {it : It} (h : it.kind = 7 ∨ it.kind = 8) : cellsOf it = if it.name = noText ∧ it.raw = 0 then numCells it.n it.hex (shortOf it.kind) (longOf it.kind) else [] := by
  unfold cellsOf
  rw [if_neg (by omega), if_pos h]
theorem akin_cells {it : It} {k : Int} (h : akin it.kind k = true) : (cellsOf { it with kind := k }).length = (cellsOf it).length := by
  unfold akin at h
  rw [Bool.or_eq_true, Bool.or_eq_true, Bool.and_eq_true, Bool.and_eq_true] at h
  rcases h with (h | ⟨h1, h2⟩) | ⟨h1, h2⟩
  · rw [← of_decide_eq_true h]
  · have h1 := of_decide_eq_true h1
    have h2 := of_decide_eq_true h2
    rw [cells_words (it := { it with kind := k }) h2, cells_words h1]
    simp only
    split
    · rw [wordCells_len, wordCells_len]
    · rfl
  · have h1 := of_decide_eq_true h1
    have h2 := of_decide_eq_true h2
    rw [cells_nums (it := { it with kind := k }) (show k = 7 ∨ k = 8 by omega), cells_nums (show it.kind = 7 ∨ it.kind = 8 by omega)]
    simp only
    split
    · unfold numCells; split <;> rfl
    · rfl
theorem akin_comm (a b : Int) : akin a b = akin b a := by
  unfold akin
  rw [Bool.and_comm (wordK a), Bool.and_comm (numK a), show decide (a = b) = decide (b = a) from decide_eq_decide.2 eq_comm]
/-- Coloured, and coloured back. -/
theorem recol_back {it : It} {k : Int} (h : recolOk it k = true) : recolOk (recol it k) it.kind = true ∧ recol (recol it k) it.kind = it ∧ (cellsOf (recol it k)).length = (cellsOf it).length ∧ (recol it k).kind = k := by
  have e : recol it k = { it with kind := k } := by unfold recol; rw [if_pos h]
  have h2 := h
  unfold recolOk at h2
  rw [Bool.and_eq_true] at h2
  obtain ⟨h3, h4⟩ := h2
  have h3 := of_decide_eq_true h3
  have hl := akin_cells h4
  have h5 : recolOk (recol it k) it.kind = true := by
    rw [e]
    unfold recolOk
    rw [Bool.and_eq_true]
    refine ⟨decide_eq_true fun e0 => h3 ?_, by rw [akin_comm]; exact h4⟩
    rw [e0] at hl
    exact List.eq_nil_of_length_eq_zero hl.symm
  refine ⟨h5, ?_, by rw [e, hl], by rw [e]⟩
  rw [show recol (recol it k) it.kind = { recol it k with kind := it.kind } by rw [recol, if_pos h5], e]
end Go.Proofs.YtllhcdkbgknjdaaDoor

namespace Go.Proofs.YtllhcdkbgknjdaaDoor
open Go.RowKit Go

abbrev itA (k : Int) (nm : ByteArray) (n : Int) (hx : Bool) (r : Int) : Value := .agg #[.int .i64 k, .string nm, .int .i32 n, .bool hx, .int .u32 r]

theorem bare_any (k : Int) (w : World) : Calls Tryd.prog 126 #[.agg #[.int .i64 k]] w fun e w' => e = .returned (itA k ⟨#[]⟩ 0 false 0) ∧ Below w.heap.size w w' := by
  go_enter Tryd.func126, Tryd.ntmps126
  go_wp2_with fail
  exact bodyPost_ret (v := itA k ⟨#[]⟩ 0 false 0) (by simp [results, Tryd.results126, go_sem]) rfl ⟨rfl, (((Below.refl _ _).alloc (Nat.le_refl _) _).alloc (by simp) _)⟩
theorem tag_any (k : Int) (h0 : 0 ≤ k) (h1 : k ≤ 9) (w : World) (hc : TabsAny w) : Calls Tryd.prog 123 #[.agg #[.int .i64 k]] w fun e w' => (∃ x : Nat, e = .returned (.int .u32 x) ∧ x < 4294967296) ∧ Below w.heap.size w w' := by
  obtain ⟨n, rfl⟩ : ∃ n : Nat, k = n := ⟨k.toNat, by omega⟩
  obtain ⟨x, hx, hcell⟩ := hc.1 n (by omega)
  have hn : n < 10 := by omega
  have hlt := lt_of_cell_tab hcell
  have hcell2 := ((Below.refl w.heap.size w).alloc (Nat.le_refl _) (.cells #[.int .i64 (n : Int)] 104)).cell hlt |>.trans hcell
  clear hc h0 h1
  go_enter Tryd.func123, Tryd.ntmps123
  go_wp2_with fail
  go_ret
  exact ⟨⟨x, rfl, hx⟩, (Below.refl _ _).alloc (Nat.le_refl _) _⟩

def itC (k : Int) (nm : ByteArray) (n : Int) (hx : Bool) (r : Int) : Array Value := #[.int .i64 k, .string nm, .int .i32 n, .bool hx, .int .u32 r]
theorem itC_cells {w : World} {g : Nat} {t : TypeId} {k : Int} {nm : ByteArray} {n : Int} {hx : Bool} {r : Int} (h : Blk w g t (itC k nm n hx r)) :
    w.cell? ⟨g, 0, none⟩ = some (.int .i64 k) ∧ w.cell? ⟨g, 1, none⟩ = some (.string nm) ∧ w.cell? ⟨g, 2, none⟩ = some (.int .i32 n) ∧ w.cell? ⟨g, 3, none⟩ = some (.bool hx) ∧ w.cell? ⟨g, 4, none⟩ = some (.int .u32 r) ∧
    w.frozen? ⟨g, 0, none⟩ = false ∧ w.frozen? ⟨g, 1, none⟩ = false ∧ w.frozen? ⟨g, 2, none⟩ = false ∧ w.frozen? ⟨g, 3, none⟩ = false ∧ w.frozen? ⟨g, 4, none⟩ = false :=
  ⟨h.cell 0, h.cell 1, h.cell 2, h.cell 3, h.cell 4, h.frozen 0, h.frozen 1, h.frozen 2, h.frozen 3, h.frozen 4⟩

theorem two_boxes {w w1 : World} {cs1 cs2 : Array Value} {t1 t2 : TypeId} (hb : Below ((w.alloc (.cells cs1 t1)).alloc (.cells cs2 t2)).heap.size ((w.alloc (.cells cs1 t1)).alloc (.cells cs2 t2)) w1) :
    Blk w1 w.heap.size t1 cs1 ∧ Blk w1 (w.heap.size + 1) t2 cs2 ∧ Below w.heap.size w w1 ∧ w.heap.size + 2 ≤ w1.heap.size := by
  have e : (w.alloc (.cells cs1 t1)).heap.size = w.heap.size + 1 := by simp
  have h2 := (Blk.new (w.alloc (.cells cs1 t1)) t2 cs2).below hb (by simp)
  rw [e] at h2
  exact ⟨((Blk.new w t1 cs1).alloc (.cells cs2 t2)).below hb (by simp; omega), h2, (((Below.refl _ _).alloc (Nat.le_refl _) _).alloc (by simp) _).trans (hb.mono (by simp; omega)), by have := hb.size; simp at this; omega⟩

/-- An item is stored over another one. -/
theorem item_put {w : World} {g : Nat} {t : TypeId} {k0 : Int} {nm0 : ByteArray} {n0 : Int} {hx0 : Bool} {r0 : Int} (h : Blk w g t (itC k0 nm0 n0 hx0 r0)) (k : Int) (nm : ByteArray) (n : Int) (hx : Bool) (r : Int) :
    Blk (((((w.setCell ⟨g, 0, none⟩ (.int .i64 k)).setCell ⟨g, 1, none⟩ (.string nm)).setCell ⟨g, 2, none⟩ (.int .i32 n)).setCell ⟨g, 3, none⟩ (.bool hx)).setCell ⟨g, 4, none⟩ (.int .u32 r)) g t (itC k nm n hx r) :=
  ((((h.put 0 (.int .i64 k)).put 1 (.string nm)).put 2 (.int .i32 n)).put 3 (.bool hx)).put 4 (.int .u32 r)
theorem item_result {w : World} {g : Nat} {t : TypeId} {k0 : Int} {nm0 : ByteArray} {n0 : Int} {hx0 : Bool} {r0 : Int} (h : Blk w g t (itC k0 nm0 n0 hx0 r0)) (k : Int) (nm : ByteArray) (n : Int) (hx : Bool) (r : Int) (o : Obj) (i : Nat) :
    ((((((w.setCell ⟨g, 0, none⟩ (.int .i64 k)).setCell ⟨g, 1, none⟩ (.string nm)).setCell ⟨g, 2, none⟩ (.int .i32 n)).setCell ⟨g, 3, none⟩ (.bool hx)).setCell ⟨g, 4, none⟩ (.int .u32 r)).alloc o).cell? ⟨g, i, none⟩ = (itC k nm n hx r)[i]? :=
  ((item_put h k nm n hx r).alloc o).cell i
end Go.Proofs.YtllhcdkbgknjdaaDoor

namespace Go.Proofs.YtllhcdkbgknjdaaDoor
open Go.RowKit Go

set_option maxHeartbeats 1000000 in
theorem word_item (k : Int) (nm : ByteArray) (w : World) : Calls Tryd.prog 125 #[.agg #[.int .i64 k, .string nm]] w fun e w' => e = .returned (itA k nm 0 false 0) ∧ Below w.heap.size w w' := by
  go_enter Tryd.func125, Tryd.ntmps125
  go_wp2_with fail
  refine (bare_any k _).mono ?_
  rintro e w1 ⟨rfl, hb⟩
  obtain ⟨k1, k2, hB, hz⟩ := two_boxes hb
  have c0 : w1.cell? ⟨w.heap.size, 1, none⟩ = some (.string nm) := k1.cell 1
  obtain ⟨d0, d1, d2, d3, d4, f0, f1, f2, f3, f4⟩ := itC_cells (k := 0) (nm := ⟨#[]⟩) (n := 0) (hx := false) (r := 0) k2
  have hz1 : w.heap.size < w1.heap.size := by omega
  have hz2 : w.heap.size + 1 < w1.heap.size := by omega
  have HB := Lib.hid hB
  have K2 := Lib.hid k2
  clear hb hB k1 k2 hz
  go_wp2_with fail
  refine bodyPost_ret (v := itA k nm 0 false 0) (by have k2 := K2.out; simp [results, Tryd.results125, item_result k2, itC, go_sem]) rfl ⟨rfl, ?_⟩
  have hB := HB.out
  go_grown
end Go.Proofs.YtllhcdkbgknjdaaDoor

namespace Go.Proofs.YtllhcdkbgknjdaaDoor
open Go.RowKit Go

set_option maxHeartbeats 1000000 in
theorem number_item (k n : Int) (hx : Bool) (w : World) : Calls Tryd.prog 128 #[.agg #[.int .i64 k, .int .i32 n, .bool hx]] w fun e w' => e = .returned (itA k ⟨#[]⟩ n hx 0) ∧ Below w.heap.size w w' := by
  go_enter Tryd.func128, Tryd.ntmps128
  go_wp2_with fail
  refine (bare_any k _).mono ?_
  rintro e w1 ⟨rfl, hb⟩
  obtain ⟨k1, k2, hB, hz⟩ := two_boxes hb
  have c0 : w1.cell? ⟨w.heap.size, 1, none⟩ = some (.int .i32 n) := k1.cell 1
  have c1 : w1.cell? ⟨w.heap.size, 2, none⟩ = some (.bool hx) := k1.cell 2
  obtain ⟨d0, d1, d2, d3, d4, f0, f1, f2, f3, f4⟩ := itC_cells (k := 0) (nm := ⟨#[]⟩) (n := 0) (hx := false) (r := 0) k2
  have hz1 : w.heap.size < w1.heap.size := by omega
  have hz2 : w.heap.size + 1 < w1.heap.size := by omega
  have HB := Lib.hid hB
  have K2 := Lib.hid k2
  clear hb hB k1 k2 hz
  go_wp2_with fail
  go_region
  all_goals go_wp2_with fail
  all_goals (refine bodyPost_ret (v := itA k ⟨#[]⟩ n hx 0) (by have k2 := K2.out; simp [results, Tryd.results128, item_result k2, itC, go_sem]) rfl ⟨rfl, ?_⟩; have hB := HB.out; go_grown)
end Go.Proofs.YtllhcdkbgknjdaaDoor

namespace Go.Proofs.YtllhcdkbgknjdaaDoor
open Go.RowKit Go

set_option maxHeartbeats 1000000 in
theorem variable_item (k n : Int) (nm : ByteArray) (w : World) : Calls Tryd.prog 131 #[.agg #[.int .i64 k, .string nm, .int .i32 n]] w fun e w' => e = .returned (itA k nm n false 0) ∧ Below w.heap.size w w' := by
  go_enter Tryd.func131, Tryd.ntmps131
  go_wp2_with fail
  refine (bare_any k _).mono ?_
  rintro e w1 ⟨rfl, hb⟩
  obtain ⟨k1, k2, hB, hz⟩ := two_boxes hb
  have c0 : w1.cell? ⟨w.heap.size, 1, none⟩ = some (.string nm) := k1.cell 1
  have c1 : w1.cell? ⟨w.heap.size, 2, none⟩ = some (.int .i32 n) := k1.cell 2
  obtain ⟨d0, d1, d2, d3, d4, f0, f1, f2, f3, f4⟩ := itC_cells (k := 0) (nm := ⟨#[]⟩) (n := 0) (hx := false) (r := 0) k2
  have hz1 : w.heap.size < w1.heap.size := by omega
  have hz2 : w.heap.size + 1 < w1.heap.size := by omega
  have HB := Lib.hid hB
  have K2 := Lib.hid k2
  clear hb hB k1 k2 hz
  go_wp2_with fail
  go_region
  all_goals go_wp2_with fail
  all_goals (refine bodyPost_ret (v := itA k nm n false 0) (by have k2 := K2.out; simp [results, Tryd.results131, item_result k2, itC, go_sem]) rfl ⟨rfl, ?_⟩; have hB := HB.out; go_grown)
end Go.Proofs.YtllhcdkbgknjdaaDoor

namespace Go.Proofs.YtllhcdkbgknjdaaDoor
open Go.RowKit Go

set_option maxHeartbeats 1000000 in
theorem raw_item (k r : Int) (w : World) : Calls Tryd.prog 133 #[.agg #[.int .i64 k, .int .u32 r]] w fun e w' => e = .returned (itA k ⟨#[]⟩ 0 false r) ∧ Below w.heap.size w w' := by
  go_enter Tryd.func133, Tryd.ntmps133
  go_wp2_with fail
  refine (bare_any k _).mono ?_
  rintro e w1 ⟨rfl, hb⟩
  obtain ⟨k1, k2, hB, hz⟩ := two_boxes hb
  have c0 : w1.cell? ⟨w.heap.size, 1, none⟩ = some (.int .u32 r) := k1.cell 1
  obtain ⟨d0, d1, d2, d3, d4, f0, f1, f2, f3, f4⟩ := itC_cells (k := 0) (nm := ⟨#[]⟩) (n := 0) (hx := false) (r := 0) k2
  have hz1 : w.heap.size < w1.heap.size := by omega
  have hz2 : w.heap.size + 1 < w1.heap.size := by omega
  have HB := Lib.hid hB
  have K2 := Lib.hid k2
  clear hb hB k1 k2 hz
  go_wp2_with fail
  refine bodyPost_ret (v := itA k ⟨#[]⟩ 0 false r) (by have k2 := K2.out; simp [results, Tryd.results133, item_result k2, itC, go_sem]) rfl ⟨rfl, ?_⟩
  have hB := HB.out
  go_grown
end Go.Proofs.YtllhcdkbgknjdaaDoor

namespace Go.Proofs.YtllhcdkbgknjdaaDoor
open Go.RowKit Go

theorem new_cells {w w2 : World} {g : Nat} {zs : List Nat} (hg : g = w2.heap.size) (hz : ∀ z ∈ zs, z < 4294967296) (hl : zs.length ≤ 2) (hB : Below w.heap.size w w2) :
    NewLen w zs.length (.returned (.slice (some ⟨g, 0, none⟩) zs.length zs.length)) (w2.alloc (.cells (zs.map u32v).toArray 51)) := by
  subst hg
  exact ⟨_, zs, rfl, rfl, hz, ⟨by simp, .inr ⟨w2.heap.size, zs.length, _, rfl, hB.size, heap_alloc_new _ _, Nat.le_refl _, by unfold maxLen; omega, by simp, by simp; exact List.take_of_length_le (by simp)⟩⟩, hB.alloc hB.size _⟩
theorem new_emp {w w2 : World} {g : Nat} (hg : g = w2.heap.size) (hB : Below w.heap.size w w2) : NewLen w 0 (.returned (.slice (some ⟨g, 0, none⟩) 0 0)) (w2.alloc (.cells #[] 51)) :=
  new_cells (zs := []) hg (fun _ hz => absurd hz List.not_mem_nil) (Nat.zero_le 2) hB
theorem new_one {w w2 : World} {g : Nat} {y : Int} (hg : g = w2.heap.size) (hy : ∃ m : Nat, y = (m : Int) ∧ m < 4294967296) (hB : Below w.heap.size w w2) :
    NewLen w 1 (.returned (.slice (some ⟨g, 0, none⟩) 1 1)) (w2.alloc (.cells #[.int .u32 y] 51)) := by
  obtain ⟨m, rfl, hm⟩ := hy
  exact new_cells (zs := [m]) hg (fun z hz => by rw [List.mem_singleton.1 hz]; exact hm) (Nat.le_succ 1) hB
theorem new_two {w w2 : World} {g : Nat} {y z : Int} (hg : g = w2.heap.size) (hy : ∃ m : Nat, y = (m : Int) ∧ m < 4294967296) (hz : ∃ m : Nat, z = (m : Int) ∧ m < 4294967296) (hB : Below w.heap.size w w2) :
    NewLen w 2 (.returned (.slice (some ⟨g, 0, none⟩) 2 2)) (w2.alloc (.cells #[.int .u32 y, .int .u32 z] 51)) := by
  obtain ⟨m, rfl, hm⟩ := hy
  obtain ⟨n, rfl, hn⟩ := hz
  exact new_cells (zs := [m, n]) hg (fun z hz => by
    rcases List.mem_cons.1 hz with h | h
    · rw [h]; exact hm
    · rw [List.mem_singleton.1 h]; exact hn) (Nat.le_refl 2) hB
theorem u32_some (x : Int) : ∃ n : Nat, IntKind.u32.wrap x = (n : Int) ∧ n < 4294967296 := ⟨(x % 4294967296).toNat, by rw [IntKind.wrap_u32]; omega, by omega⟩
theorem u32_mod (x : Int) : ∃ n : Nat, x % 4294967296 = (n : Int) ∧ n < 4294967296 := ⟨(x % 4294967296).toNat, by omega, by omega⟩

set_option maxHeartbeats 1000000 in
theorem raw_cells (k : Int) (r : Nat) (hr : r < 4294967296) (w : World) : Calls Tryd.prog 132 #[.agg #[.int .i64 k, .int .u32 r]] w (NewLen w 1) := by
  have HR := Lib.hid hr
  clear hr
  go_enter Tryd.func132, Tryd.ntmps132
  go_wp2_with fail
  go_ret
  exact new_one (by simp) ⟨r, rfl, HR.out⟩ ((Below.refl _ _).alloc (Nat.le_refl _) _)
set_option maxHeartbeats 1000000 in
theorem widetag_any (k n : Int) (hx : Bool) (w : World) : Calls Tryd.prog 129 #[.agg #[.int .i64 k, .int .i32 n, .bool hx]] w fun e w' => (∃ x : Nat, e = .returned (.int .u32 x) ∧ x < 4294967296) ∧ Below w.heap.size w w' := by
  by_cases h : k = 7
  · have h7 : (k == 7) = true := by simpa using h
    clear h
    go_enter Tryd.func129, Tryd.ntmps129
    go_wp2_with fail
    go_ret
    exact ⟨⟨2, rfl, by omega⟩, (Below.refl _ _).alloc (Nat.le_refl _) _⟩
  · have h7 : (k == 7) = false := by simpa using h
    clear h
    go_enter Tryd.func129, Tryd.ntmps129
    go_wp2_with fail
    go_ret
    exact ⟨⟨5, rfl, by omega⟩, (Below.refl _ _).alloc (Nat.le_refl _) _⟩
end Go.Proofs.YtllhcdkbgknjdaaDoor

namespace Go.Proofs.YtllhcdkbgknjdaaDoor
open Go.RowKit Go

theorem num_box {w w' : World} {k n : Int} {hx : Bool} {t : TypeId} (hB : Below (w.heap.size + 1) (w.alloc (.cells #[.int .i64 k, .int .i32 n, .bool hx] t)) w') :
    w'.cell? ⟨w.heap.size, 0, none⟩ = some (.int .i64 k) ∧ w'.cell? ⟨w.heap.size, 1, none⟩ = some (.int .i32 n) ∧ w'.cell? ⟨w.heap.size, 2, none⟩ = some (.bool hx) ∧ Below w.heap.size w w' := by
  have h := (Blk.new w t #[.int .i64 k, .int .i32 n, .bool hx]).below hB (by omega)
  exact ⟨h.cell 0, h.cell 1, h.cell 2, ((Below.refl _ _).alloc (Nat.le_refl _) _).trans (hB.mono (by omega))⟩
theorem num_keep {w W w2 : World} {k n : Int} {hx : Bool} {t : TypeId} (h1 : Below (w.heap.size + 1) (w.alloc (.cells #[.int .i64 k, .int .i32 n, .bool hx] t)) W) (h2 : Below W.heap.size W w2) :
    w2.cell? ⟨w.heap.size, 0, none⟩ = some (.int .i64 k) ∧ w2.cell? ⟨w.heap.size, 1, none⟩ = some (.int .i32 n) ∧ w2.cell? ⟨w.heap.size, 2, none⟩ = some (.bool hx) ∧ Below w.heap.size w w2 :=
  num_box (h1.trans (h2.mono (by have := h1.size; simp at this; omega)))

theorem num3 {a b c d : Prop} (h : a ∧ b ∧ c ∧ d) : a ∧ b ∧ c := ⟨h.1, h.2.1, h.2.2.1⟩

set_option maxHeartbeats 2000000 in
theorem number_narrow (k n : Int) (hx : Bool) (h0 : 0 ≤ k) (h1 : k ≤ 9) (hn1 : -67108864 ≤ n) (hn2 : n ≤ 67108863) (w : World) (hcs : TabsAny w) : Calls Tryd.prog 127 #[.agg #[.int .i64 k, .int .i32 n, .bool hx]] w (NewLen w 1) := by
  have HT : Hid (∀ W, Below w.heap.size w W → Calls Tryd.prog 123 #[.agg #[.int .i64 k]] W fun e w' => (∃ x : Nat, e = .returned (.int .u32 x) ∧ x < 4294967296) ∧ Below W.heap.size W w') := Lib.hid fun W hb => tag_any k h0 h1 W (hcs.below hb)
  clear hcs h0 h1
  cases hx with
  | true =>
    go_enter Tryd.func127, Tryd.ntmps127
    go_wp2_with fail
    have hbx : Below (w.heap.size + 1) (w.alloc (.cells #[.int .i64 k, .int .i32 n, .bool true] 110)) (w.alloc (.cells #[.int .i64 k, .int .i32 n, .bool true] 110)).drew := (Below.refl _ _).drew
    have HBX := Lib.hid hbx
    clear hbx
    go_region_held3 (fun w' => w'.cell? ⟨w.heap.size, 0, none⟩ = some (.int .i64 k) ∧ w'.cell? ⟨w.heap.size, 1, none⟩ = some (.int .i32 n) ∧ w'.cell? ⟨w.heap.size, 2, none⟩ = some (.bool true)) (first | exact num3 (num_box HBX.out) | go_keep | exact num3 (num_keep HBX.out hb2)) (first | (go_at_call 123; refine (HT.out _ (num_box HBX.out).2.2.2).mono ?_; rintro e w2 ⟨⟨x, rfl, hx⟩, hb2⟩))
    go_wp2
    go_ret
    exact new_one rfl (or_nat _ _) (num_keep HBX.out hb2).2.2.2
  | false =>
    go_enter Tryd.func127, Tryd.ntmps127
    go_wp2_with fail
    have hbx : Below (w.heap.size + 1) (w.alloc (.cells #[.int .i64 k, .int .i32 n, .bool false] 110)) (w.alloc (.cells #[.int .i64 k, .int .i32 n, .bool false] 110)).drew := (Below.refl _ _).drew
    have HBX := Lib.hid hbx
    clear hbx
    go_region_held3 (fun w' => w'.cell? ⟨w.heap.size, 0, none⟩ = some (.int .i64 k) ∧ w'.cell? ⟨w.heap.size, 1, none⟩ = some (.int .i32 n) ∧ w'.cell? ⟨w.heap.size, 2, none⟩ = some (.bool false)) (first | exact num3 (num_box HBX.out) | go_keep | exact num3 (num_keep HBX.out hb2)) (first | (go_at_call 123; refine (HT.out _ (num_box HBX.out).2.2.2).mono ?_; rintro e w2 ⟨⟨x, rfl, hx⟩, hb2⟩))
    go_wp2
    go_ret
    exact new_one rfl (or_nat _ _) (num_keep HBX.out hb2).2.2.2

set_option maxHeartbeats 2000000 in
theorem number_wide (k n : Int) (hx : Bool) (hn : n < -67108864 ∨ 67108863 < n) (w : World) : Calls Tryd.prog 127 #[.agg #[.int .i64 k, .int .i32 n, .bool hx]] w (NewLen w 2) := by
  have HT : Hid (∀ W, Calls Tryd.prog 129 #[.agg #[.int .i64 k, .int .i32 n, .bool hx]] W fun e w' => (∃ x : Nat, e = .returned (.int .u32 x) ∧ x < 4294967296) ∧ Below W.heap.size W w') := Lib.hid fun W => widetag_any k n hx W
  rcases hn with hn | hn
  · cases hx with
    | true =>
      go_enter Tryd.func127, Tryd.ntmps127
      go_wp2_with fail
      have hbx : Below (w.heap.size + 1) (w.alloc (.cells #[.int .i64 k, .int .i32 n, .bool true] 110)) (w.alloc (.cells #[.int .i64 k, .int .i32 n, .bool true] 110)).drew := (Below.refl _ _).drew
      have HBX := Lib.hid hbx
      clear hbx
      go_region_held3 (fun w' => w'.cell? ⟨w.heap.size, 0, none⟩ = some (.int .i64 k) ∧ w'.cell? ⟨w.heap.size, 1, none⟩ = some (.int .i32 n) ∧ w'.cell? ⟨w.heap.size, 2, none⟩ = some (.bool true)) (first | exact num3 (num_box HBX.out) | go_keep | exact num3 (num_keep HBX.out hb2)) (first | (go_at_call 129; refine (HT.out _).mono ?_; rintro e w2 ⟨⟨x, rfl, hx⟩, hb2⟩))
      go_wp2
      go_ret
      exact new_two rfl (or_nat _ _) (u32_some _) (num_keep HBX.out hb2).2.2.2
    | false =>
      go_enter Tryd.func127, Tryd.ntmps127
      go_wp2_with fail
      have hbx : Below (w.heap.size + 1) (w.alloc (.cells #[.int .i64 k, .int .i32 n, .bool false] 110)) (w.alloc (.cells #[.int .i64 k, .int .i32 n, .bool false] 110)).drew := (Below.refl _ _).drew
      have HBX := Lib.hid hbx
      clear hbx
      go_region_held3 (fun w' => w'.cell? ⟨w.heap.size, 0, none⟩ = some (.int .i64 k) ∧ w'.cell? ⟨w.heap.size, 1, none⟩ = some (.int .i32 n) ∧ w'.cell? ⟨w.heap.size, 2, none⟩ = some (.bool false)) (first | exact num3 (num_box HBX.out) | go_keep | exact num3 (num_keep HBX.out hb2)) (first | (go_at_call 129; refine (HT.out _).mono ?_; rintro e w2 ⟨⟨x, rfl, hx⟩, hb2⟩))
      go_wp2
      go_ret
      exact new_two rfl (or_nat _ _) (u32_some _) (num_keep HBX.out hb2).2.2.2
  · have hn2 : -67108864 ≤ n := by omega
    cases hx with
    | true =>
      go_enter Tryd.func127, Tryd.ntmps127
      go_wp2_with fail
      have hbx : Below (w.heap.size + 1) (w.alloc (.cells #[.int .i64 k, .int .i32 n, .bool true] 110)) (w.alloc (.cells #[.int .i64 k, .int .i32 n, .bool true] 110)).drew := (Below.refl _ _).drew
      have HBX := Lib.hid hbx
      clear hbx
      go_region_held3 (fun w' => w'.cell? ⟨w.heap.size, 0, none⟩ = some (.int .i64 k) ∧ w'.cell? ⟨w.heap.size, 1, none⟩ = some (.int .i32 n) ∧ w'.cell? ⟨w.heap.size, 2, none⟩ = some (.bool true)) (first | exact num3 (num_box HBX.out) | go_keep | exact num3 (num_keep HBX.out hb2)) (first | (go_at_call 129; refine (HT.out _).mono ?_; rintro e w2 ⟨⟨x, rfl, hx⟩, hb2⟩))
      go_wp2
      go_ret
      exact new_two rfl (or_nat _ _) (u32_some _) (num_keep HBX.out hb2).2.2.2
    | false =>
      go_enter Tryd.func127, Tryd.ntmps127
      go_wp2_with fail
      have hbx : Below (w.heap.size + 1) (w.alloc (.cells #[.int .i64 k, .int .i32 n, .bool false] 110)) (w.alloc (.cells #[.int .i64 k, .int .i32 n, .bool false] 110)).drew := (Below.refl _ _).drew
      have HBX := Lib.hid hbx
      clear hbx
      go_region_held3 (fun w' => w'.cell? ⟨w.heap.size, 0, none⟩ = some (.int .i64 k) ∧ w'.cell? ⟨w.heap.size, 1, none⟩ = some (.int .i32 n) ∧ w'.cell? ⟨w.heap.size, 2, none⟩ = some (.bool false)) (first | exact num3 (num_box HBX.out) | go_keep | exact num3 (num_keep HBX.out hb2)) (first | (go_at_call 129; refine (HT.out _).mono ?_; rintro e w2 ⟨⟨x, rfl, hx⟩, hb2⟩))
      go_wp2
      go_ret
      exact new_two rfl (or_nat _ _) (u32_some _) (num_keep HBX.out hb2).2.2.2
end Go.Proofs.YtllhcdkbgknjdaaDoor

namespace Go.Proofs.YtllhcdkbgknjdaaDoor
open Go.RowKit Go

theorem var_box {w w' : World} {k n : Int} {nm : ByteArray} {t : TypeId} (hB : Below (w.heap.size + 1) (w.alloc (.cells #[.int .i64 k, .string nm, .int .i32 n] t)) w') :
    w'.cell? ⟨w.heap.size, 0, none⟩ = some (.int .i64 k) ∧ w'.cell? ⟨w.heap.size, 1, none⟩ = some (.string nm) ∧ w'.cell? ⟨w.heap.size, 2, none⟩ = some (.int .i32 n) ∧ Below w.heap.size w w' := by
  have h := (Blk.new w t #[.int .i64 k, .string nm, .int .i32 n]).below hB (by omega)
  exact ⟨h.cell 0, h.cell 1, h.cell 2, ((Below.refl _ _).alloc (Nat.le_refl _) _).trans (hB.mono (by omega))⟩
/-- A list of one number. -/
theorem own_one {w : World} {base : Nat} {v : Value} {zs : List Nat} (h : w.ownsRow base 51 1 v zs.length (zs.map u32v)) (h1 : zs.length = 1) : ∃ (g cap z : Nat), v = .slice (some ⟨g, 0, none⟩) 1 cap ∧ w.cell? ⟨g, 0, none⟩ = some (.int .u32 (z : Int)) ∧ g < w.heap.size := by
  match zs, h1 with
  | [z], _ =>
    rcases h.2 with ⟨_, h0⟩ | ⟨g, cap, cur, rfl, hb, hg, hn, hm, hsz, ht⟩
    · simp at h0
    · refine ⟨g, cap, z, rfl, ?_, (Array.getElem?_eq_some_iff.1 hg).1⟩
      rw [cell_of_row w g 0 cur 51 (0, 0) hg]
      have h2 := congrArg (·[0]?) ht
      simpa [List.getElem?_take, u32v] using h2

theorem own_slice {w : World} {base : Nat} {e : TypeId} {size : Nat} {v : Value} {n : Nat} {xs : List Value} (h : w.ownsRow base e size v n xs) : ∃ A cap, v = .slice A n cap := by
  rcases h.2 with ⟨rfl, rfl⟩ | ⟨g, cap, cur, rfl, _⟩
  · exact ⟨_, _, rfl⟩
  · exact ⟨_, _, rfl⟩
theorem var_keep {w w1 w2 : World} {k n : Int} {nm : ByteArray} {t : TypeId} {g : Nat} {z : Int} (h1 : Below (w.heap.size + 1) (w.alloc (.cells #[.int .i64 k, .string nm, .int .i32 n] t)) w1) (hs : w.heap.size + 1 ≤ w1.heap.size) (hg : g < w1.heap.size)
    (hc : w1.cell? ⟨g, 0, none⟩ = some (.int .u32 z)) (h2 : Below w1.drew.heap.size w1.drew w2) : w2.cell? ⟨w.heap.size, 0, none⟩ = some (.int .i64 k) ∧ w2.cell? ⟨w.heap.size, 2, none⟩ = some (.int .i32 n) ∧ w2.cell? ⟨g, 0, none⟩ = some (.int .u32 z) := by
  obtain ⟨c0, _, c2, _⟩ := var_box (h1.drew.trans (h2.mono hs))
  exact ⟨c0, c2, (h2.cell (p := ⟨g, 0, none⟩) hg).trans hc⟩

set_option maxHeartbeats 2000000 in
theorem variable_cells (k n : Int) (nm : ByteArray) (h0 : 0 ≤ k) (h1 : k ≤ 9) (hs : nm.size ≤ 4611686018427387904) (w : World) (hcs : TabsAny w) :
    Calls Tryd.prog 130 #[.agg #[.int .i64 k, .string nm, .int .i32 n]] w (NewLen w (if (packs nm.data.toList).length = 1 then 2 else 0)) := by
  have HT : Hid (∀ W, Below w.heap.size w W → Calls Tryd.prog 123 #[.agg #[.int .i64 k]] W fun e w' => (∃ x : Nat, e = .returned (.int .u32 x) ∧ x < 4294967296) ∧ Below W.heap.size W w') := Lib.hid fun W hb => tag_any k h0 h1 W (hcs.below hb)
  have HP : Hid (∀ W, Below w.heap.size w W → Calls Tryd.prog 98 #[.string nm] W (NewLen W (packs nm.data.toList).length)) := Lib.hid fun W hb => impl_packany nm hs W (hcs.below hb)
  obtain ⟨m, hm⟩ : ∃ m, (packs nm.data.toList).length = m := ⟨_, rfl⟩
  rw [hm] at HP ⊢
  clear hcs h0 h1 hm hs
  by_cases h1 : m = 1
  · rw [if_pos h1]
    have H1 := Lib.hid h1
    clear h1
    go_enter Tryd.func130, Tryd.ntmps130
    go_wp2_with fail
    refine (HP.out _ ((Below.refl _ _).alloc (Nat.le_refl _) _)).mono ?_
    rintro e w1 ⟨v, zs, rfl, hl, -, hown, hb1⟩
    have hb1' : Below (w.heap.size + 1) (w.alloc (.cells #[.int .i64 k, .string nm, .int .i32 n] 112)) w1 := hb1.mono (by simp)
    have hs1 := hb1.size
    obtain ⟨g, cap, z, rfl, hcell, hg⟩ := own_one hown (hl.trans H1.out)
    have HBX := Lib.hid hb1'
    have hz1 : w.heap.size + 1 ≤ w1.heap.size := by simp at hs1; omega
    obtain ⟨c0, c1, c2, hB⟩ := var_box hb1'
    have HB := Lib.hid hB
    have HG := Lib.hid hg
    have HCG := Lib.hid hcell
    have HZ := Lib.hid hz1
    clear hown hb1 hb1' hl hB hs1 hg HP hz1
    go_wp2_with fail
    go_region_held3 (fun w' => w'.cell? ⟨w.heap.size, 0, none⟩ = some (.int .i64 k) ∧ w'.cell? ⟨w.heap.size, 2, none⟩ = some (.int .i32 n) ∧ w'.cell? ⟨g, 0, none⟩ = some (.int .u32 (z : Int))) (first | exact ⟨c0, c2, hcell⟩ | go_keep | exact var_keep HBX.out HZ.out HG.out HCG.out hb2) (first | (go_at_call 123; refine (HT.out _ HB.out.drew).mono ?_; rintro e w2 ⟨⟨x, rfl, hx⟩, hb2⟩))
    go_wp2
    go_ret
    exact new_two rfl (or_nat _ _) (u32_some _) (HB.out.drew.trans (hb2.mono HB.out.size))
  · rw [if_neg h1]
    go_enter Tryd.func130, Tryd.ntmps130
    go_wp2_with fail
    refine (HP.out _ ((Below.refl _ _).alloc (Nat.le_refl _) _)).mono ?_
    rintro e w1 ⟨v, zs, rfl, hl, -, hown, hb1⟩
    obtain ⟨A, cap, rfl⟩ := own_slice hown
    have hne : ((zs.length : Int) != 1) = true := by simp; omega
    have HB := Lib.hid ((((Below.refl w.heap.size w).alloc (Nat.le_refl _) _)).trans (hb1.mono (by simp)))
    clear hown hb1 hl h1 HP
    go_wp2_with fail
    go_ret
    exact ⟨_, [], rfl, rfl, fun z hz => absurd hz List.not_mem_nil, World.ownsRow_nil _ _ _ _, HB.out⟩
end Go.Proofs.YtllhcdkbgknjdaaDoor

namespace Go.Proofs.YtllhcdkbgknjdaaDoor
open Go.RowKit Go

theorem map_setU (zs : List Nat) (i x : Nat) : (zs.map u32v).set i (u32v x) = (zs.set i x).map u32v := List.map_set.symm
theorem small_set {zs : List Nat} (h : ∀ z ∈ zs, z < 4294967296) (i : Nat) {x : Nat} (hx : x < 4294967296) : ∀ z ∈ zs.set i x, z < 4294967296 := by
  intro z hz
  rcases List.mem_or_eq_of_mem_set hz with h1 | h1
  · exact h z h1
  · rw [h1]; exact hx

set_option maxHeartbeats 2000000 in
theorem word_cells (k : Int) (nm : ByteArray) (h0 : 0 ≤ k) (h1 : k ≤ 9) (hs : nm.size ≤ 4611686018427387904) (w : World) (hcs : TabsAny w) :
    Calls Tryd.prog 124 #[.agg #[.int .i64 k, .string nm]] w (NewLen w (packs nm.data.toList).length) := by
  have HT : Hid (∀ W, Below w.heap.size w W → Calls Tryd.prog 123 #[.agg #[.int .i64 k]] W fun e w' => (∃ x : Nat, e = .returned (.int .u32 x) ∧ x < 4294967296) ∧ Below W.heap.size W w') := Lib.hid fun W hb => tag_any k h0 h1 W (hcs.below hb)
  have HP : Hid (∀ W, Below w.heap.size w W → Calls Tryd.prog 98 #[.string nm] W (NewLen W (packs nm.data.toList).length)) := Lib.hid fun W hb => impl_packany nm hs W (hcs.below hb)
  have hm24 := (packs_len nm.data.toList).2
  obtain ⟨m, hm⟩ : ∃ m, (packs nm.data.toList).length = m := ⟨_, rfl⟩
  rw [hm] at HP hm24 ⊢
  clear hcs h0 h1 hm hs
  go_enter Tryd.func124, Tryd.ntmps124
  go_wp2_with fail
  refine (HT.out _ ((Below.refl _ _).alloc (Nat.le_refl _) _)).mono ?_
  rintro e w1 ⟨⟨x, rfl, hx⟩, hb1⟩
  have k1 := (Blk.new w 108 #[.int .i64 k, .string nm]).below hb1 (by simp)
  have c1 : w1.cell? ⟨w.heap.size, 1, none⟩ = some (.string nm) := k1.cell 1
  have HB1 := Lib.hid (((Below.refl w.heap.size w).alloc (Nat.le_refl _) _).trans (hb1.mono (by simp)))
  clear hb1 k1 HT
  go_wp2_with fail
  refine (HP.out _ HB1.out).mono ?_
  rintro e w2 ⟨v, zs, rfl, hl, hz, hown, hb2⟩
  have HB2 := Lib.hid (HB1.out.trans (hb2.mono HB1.out.size))
  have HO := Lib.hid (own_base hown HB1.out.size)
  have HZ := Lib.hid hz
  subst hl
  rcases hown.2 with ⟨rfl, h0⟩ | ⟨g, cap, cur, rfl, -⟩
  · obtain rfl : zs = [] := List.eq_nil_of_length_eq_zero h0
    clear hb2 hown hz HP c1 h0
    go_wp2_with fail
    go_loopw [3, 15] (fun vt vi wr => ∃ x : Nat, vt = .int .u32 x ∧ vi = .int .i64 0 ∧ wr = w2) (fun _ _ _ => 0)
    case atStart => exact ⟨x, rfl, rfl, rfl⟩
    case round =>
      obtain ⟨y, rfl, rfl, rfl⟩ := hrel
      go_wp2_with fail
      go_ret
      exact ⟨_, [], rfl, rfl, fun z hz => absurd hz List.not_mem_nil, World.ownsRow_nil _ _ _ _, HB2.out⟩
  · clear hb2 hown hz HP c1
    go_wp2_with fail
    go_loopw [3, 15] (fun vt vi wr => ∃ (x i : Nat) (ys : List Nat), vt = .int .u32 x ∧ vi = .int .i64 i ∧ i ≤ zs.length ∧ Hid (x < 4294967296) ∧ Hid (ys.length = zs.length ∧ ∀ z ∈ ys, z < 4294967296) ∧ wr.ownsRow w.heap.size 51 1 (.slice (some ⟨g, 0, none⟩) zs.length cap) zs.length (ys.map u32v) ∧ Below w.heap.size w wr) (fun _ vi _ => zs.length - (intOf vi).toNat)
    case atStart => exact ⟨x, 0, zs, rfl, rfl, by omega, Lib.hid hx, Lib.hid ⟨rfl, HZ.out⟩, HO.out, HB2.out⟩
    case round =>
      obtain ⟨x, i, ys, rfl, rfl, hi, HX, HY, hO, hB⟩ := hrel
      by_cases hp : i < zs.length
      · have hpy : i < ys.length := by rw [HY.out.1]; exact hp
        have hzi := HY.out.2 _ (List.getElem_mem hpy)
        have hd : wr.cell? ⟨g, i, none⟩ = some (u32v ys[i]) := by
          rw [hO.cellAt i (by omega)]
          simp [hpy]
        obtain ⟨z, hzz⟩ : ∃ z, ys[i] = z := ⟨_, rfl⟩
        rw [hzz] at hd hzi
        change wr.cell? ⟨g, i, none⟩ = some (.int .u32 (z : Int)) at hd
        obtain ⟨y, hy, hyl⟩ := or_nat ((z : Int) * 16 % 4294967296) (x : Int)
        have HYL := Lib.hid hyl
        have hs := hO.stored i (.int .u32 (y : Int))
        have HS := Lib.hid hs
        clear hyl hs
        have hf := hO.frozenAt i
        have i2 : (i : Int) < (zs.length : Int) := by omega
        have HGB := Lib.hid (own_lt hO g rfl)
        have HB := Lib.hid hB
        clear hO hB hzz hpy HO HB2 HB1 HZ
        go_wp2_with fail
        go_roundw
        case rel => exact ⟨0, i + 1, ys.set i y, rfl, by go_num, by omega, Lib.hid (by omega), Lib.hid ⟨by rw [List.length_set]; exact HY.out.1, small_set HY.out.2 i HYL.out⟩, by rw [← map_setU]; exact HS.out.1, HB.out.grown HS.out.2 HB.out.size (fun k hk => by obtain rfl := Option.some.inj hk; exact HGB.out)⟩
        case measure => simp [intOf]; omega
      · obtain rfl : i = zs.length := by omega
        go_wp2_with fail
        go_ret
        exact ⟨_, ys, rfl, HY.out.1, HY.out.2, by rw [HY.out.1]; exact hO, hB⟩
end Go.Proofs.YtllhcdkbgknjdaaDoor

namespace Go.Proofs.YtllhcdkbgknjdaaDoor
open Go.RowKit Go

theorem item_eql_raw (w : World) (k1 : Int) (nm1 : ByteArray) (n1 : Int) (x1 : Bool) (r1 : Int) (k2 : Int) (nm2 : ByteArray) (n2 : Int) (x2 : Bool) (r2 : Int) :
    (binOp .eql 57 (itA k1 nm1 n1 x1 r1) (itA k2 nm2 n2 x2 r2)).run Tryd.prog w = .ok (.bool (k1 == k2 && (nm1.toList == nm2.toList && (n1 == n2 && (x1 == x2 && r1 == r2))))) w := by
  simp [go_sem, Tryd.underlying57, Tryd.underlying3, Tryd.underlying9, Tryd.underlying21, Tryd.underlying4, Tryd.underlying51]
  (repeat' split) <;> simp_all
theorem item_neq_raw (w : World) (k1 : Int) (nm1 : ByteArray) (n1 : Int) (x1 : Bool) (r1 : Int) (k2 : Int) (nm2 : ByteArray) (n2 : Int) (x2 : Bool) (r2 : Int) :
    (binOp .neq 57 (itA k1 nm1 n1 x1 r1) (itA k2 nm2 n2 x2 r2)).run Tryd.prog w = .ok (.bool (!(k1 == k2 && (nm1.toList == nm2.toList && (n1 == n2 && (x1 == x2 && r1 == r2)))))) w := by
  simp [go_sem, Tryd.underlying57, Tryd.underlying3, Tryd.underlying9, Tryd.underlying21, Tryd.underlying4, Tryd.underlying51]
  (repeat' split) <;> simp_all
theorem text_inj {a b : ByteArray} : a.toList = b.toList ↔ a = b := by
  rw [ByteArray.toList_eq, ByteArray.toList_eq]
  exact ⟨fun h => Go.WideShapes.bytes_inj h, fun h => by rw [h]⟩
theorem same_iff (a b : It) : (a.kind == b.kind && (a.name.toList == b.name.toList && (a.n == b.n && (a.hex == b.hex && (a.raw : Int) == (b.raw : Int))))) = decide (a = b) := by
  obtain ⟨k1, nm1, n1, x1, r1⟩ := a
  obtain ⟨k2, nm2, n2, x2, r2⟩ := b
  rw [Bool.eq_iff_iff]
  simp [text_inj]
  intro _ _ _ _
  omega
/-- The value of an item. -/
abbrev itVal (a : It) : Value := itA a.kind a.name a.n a.hex (a.raw : Int)
theorem item_eql (w : World) (a b : It) : (binOp .eql 57 (itVal a) (itVal b)).run Tryd.prog w = .ok (.bool (decide (a = b))) w := by rw [item_eql_raw, same_iff]
theorem item_neq (w : World) (a b : It) : (binOp .neq 57 (itVal a) (itVal b)).run Tryd.prog w = .ok (.bool (!decide (a = b))) w := by rw [item_neq_raw, same_iff]

theorem isword_any (k : Int) (w : World) : Calls Tryd.prog 83 #[.int .i64 k] w fun e w' => e = .returned (.bool (wordK k)) ∧ w = w' := by
  by_cases h1 : 1 ≤ k
  · by_cases h2 : k ≤ 6
    · have e : wordK k = true := decide_eq_true ⟨h1, h2⟩
      rw [e]
      clear e
      go_enter Tryd.func83, Tryd.ntmps83
      go_wp2_with fail
      go_ret
      exact ⟨rfl, rfl⟩
    · have e : wordK k = false := decide_eq_false (by omega)
      rw [e]
      clear e
      go_enter Tryd.func83, Tryd.ntmps83
      go_wp2_with fail
      go_ret
      exact ⟨rfl, rfl⟩
  · have e : wordK k = false := decide_eq_false (by omega)
    rw [e]
    clear e
    go_enter Tryd.func83, Tryd.ntmps83
    go_wp2_with fail
    go_ret
    exact ⟨rfl, rfl⟩
theorem isnumber_any (k : Int) (w : World) : Calls Tryd.prog 84 #[.int .i64 k] w fun e w' => e = .returned (.bool (numK k)) ∧ w = w' := by
  by_cases h1 : k = 7
  · have e : numK k = true := decide_eq_true (by omega)
    have b1 : (k == 7) = true := by simpa using h1
    rw [e]
    clear e h1
    go_enter Tryd.func84, Tryd.ntmps84
    go_wp2_with fail
    go_ret
    exact ⟨rfl, rfl⟩
  · have b1 : (k == 7) = false := by simpa using h1
    by_cases h2 : k = 8
    · have e : numK k = true := decide_eq_true (by omega)
      have b2 : (k == 8) = true := by simpa using h2
      rw [e]
      clear e h1 h2
      go_enter Tryd.func84, Tryd.ntmps84
      go_wp2_with fail
      go_ret
      exact ⟨rfl, rfl⟩
    · have b2 : (k == 8) = false := by simpa using h2
      have e : numK k = false := decide_eq_false (by omega)
      rw [e]
      clear e h1 h2
      go_enter Tryd.func84, Tryd.ntmps84
      go_wp2_with fail
      go_ret
      exact ⟨rfl, rfl⟩
end Go.Proofs.YtllhcdkbgknjdaaDoor

namespace Go.Proofs.YtllhcdkbgknjdaaDoor
open Go.RowKit Go

set_option maxHeartbeats 1000000 in
theorem shape_word (it : It) (h : wordK it.kind = true) (w : World) : Calls Tryd.prog 72 #[itVal it] w fun e w' => e = .returned (.iface 108 (.agg #[.int .i64 it.kind, .string it.name])) ∧ Below w.heap.size w w' := by
  have HW : Hid (∀ W, Calls Tryd.prog 83 #[.int .i64 it.kind] W fun e w' => e = .returned (.bool true) ∧ W = w') := Lib.hid fun W => by rw [← h]; exact isword_any _ W
  obtain ⟨k, nm, n, x, r⟩ := it
  clear h
  go_enter Tryd.func72, Tryd.ntmps72
  go_wp2_with fail
  refine (HW.out _).mono ?_
  rintro e w' ⟨rfl, rfl⟩
  go_wp2_with fail
  go_ret
  exact ⟨rfl, by go_grown⟩
set_option maxHeartbeats 1000000 in
theorem shape_num (it : It) (h : numK it.kind = true) (w : World) : Calls Tryd.prog 72 #[itVal it] w fun e w' => e = .returned (.iface 110 (.agg #[.int .i64 it.kind, .int .i32 it.n, .bool it.hex])) ∧ Below w.heap.size w w' := by
  have h2 : wordK it.kind = false := by have := of_decide_eq_true h; exact decide_eq_false (by omega)
  have HW : Hid (∀ W, Calls Tryd.prog 83 #[.int .i64 it.kind] W fun e w' => e = .returned (.bool false) ∧ W = w') := Lib.hid fun W => by rw [← h2]; exact isword_any _ W
  have HN : Hid (∀ W, Calls Tryd.prog 84 #[.int .i64 it.kind] W fun e w' => e = .returned (.bool true) ∧ W = w') := Lib.hid fun W => by rw [← h]; exact isnumber_any _ W
  obtain ⟨k, nm, n, x, r⟩ := it
  clear h h2
  go_enter Tryd.func72, Tryd.ntmps72
  go_wp2_with fail
  refine (HW.out _).mono ?_
  rintro e w' ⟨rfl, rfl⟩
  go_wp2_with fail
  refine (HN.out _).mono ?_
  rintro e w' ⟨rfl, rfl⟩
  go_wp2_with fail
  go_ret
  exact ⟨rfl, by go_grown⟩
set_option maxHeartbeats 1000000 in
theorem shape_var (it : It) (h : it.kind = 9) (w : World) : Calls Tryd.prog 72 #[itVal it] w fun e w' => e = .returned (.iface 112 (.agg #[.int .i64 it.kind, .string it.name, .int .i32 it.n])) ∧ Below w.heap.size w w' := by
  have h2 : wordK it.kind = false := decide_eq_false (by omega)
  have h3 : numK it.kind = false := decide_eq_false (by omega)
  have HW : Hid (∀ W, Calls Tryd.prog 83 #[.int .i64 it.kind] W fun e w' => e = .returned (.bool false) ∧ W = w') := Lib.hid fun W => by rw [← h2]; exact isword_any _ W
  have HN : Hid (∀ W, Calls Tryd.prog 84 #[.int .i64 it.kind] W fun e w' => e = .returned (.bool false) ∧ W = w') := Lib.hid fun W => by rw [← h3]; exact isnumber_any _ W
  obtain ⟨k, nm, n, x, r⟩ := it
  have b9 : (k == 9) = true := by simpa using h
  clear h h2 h3
  go_enter Tryd.func72, Tryd.ntmps72
  go_wp2_with fail
  refine (HW.out _).mono ?_
  rintro e w' ⟨rfl, rfl⟩
  go_wp2_with fail
  refine (HN.out _).mono ?_
  rintro e w' ⟨rfl, rfl⟩
  go_wp2_with fail
  go_ret
  exact ⟨rfl, by go_grown⟩
set_option maxHeartbeats 1000000 in
theorem shape_raw (it : It) (h1 : ¬ (1 ≤ it.kind ∧ it.kind ≤ 9)) (w : World) : Calls Tryd.prog 72 #[itVal it] w fun e w' => e = .returned (.iface 114 (.agg #[.int .i64 0, .int .u32 (it.raw : Int)])) ∧ Below w.heap.size w w' := by
  have h2 : wordK it.kind = false := decide_eq_false (by omega)
  have h3 : numK it.kind = false := decide_eq_false (by omega)
  have HW : Hid (∀ W, Calls Tryd.prog 83 #[.int .i64 it.kind] W fun e w' => e = .returned (.bool false) ∧ W = w') := Lib.hid fun W => by rw [← h2]; exact isword_any _ W
  have HN : Hid (∀ W, Calls Tryd.prog 84 #[.int .i64 it.kind] W fun e w' => e = .returned (.bool false) ∧ W = w') := Lib.hid fun W => by rw [← h3]; exact isnumber_any _ W
  have b9 : (it.kind == 9) = false := by simp; omega
  obtain ⟨k, nm, n, x, r⟩ := it
  clear h1 h2 h3
  go_enter Tryd.func72, Tryd.ntmps72
  go_wp2_with fail
  refine (HW.out _).mono ?_
  rintro e w' ⟨rfl, rfl⟩
  go_wp2_with fail
  refine (HN.out _).mono ?_
  rintro e w' ⟨rfl, rfl⟩
  go_wp2_with fail
  go_ret
  exact ⟨rfl, by go_grown⟩
end Go.Proofs.YtllhcdkbgknjdaaDoor

namespace Go.Proofs.YtllhcdkbgknjdaaDoor
open Go.RowKit Go

theorem it_box {w w' : World} {k n r : Int} {nm : ByteArray} {x : Bool} {t : TypeId} (hB : Below (w.heap.size + 1) (w.alloc (.cells #[.int .i64 k, .string nm, .int .i32 n, .bool x, .int .u32 r] t)) w') :
    w'.cell? ⟨w.heap.size, 0, none⟩ = some (.int .i64 k) ∧ w'.cell? ⟨w.heap.size, 1, none⟩ = some (.string nm) ∧ w'.cell? ⟨w.heap.size, 2, none⟩ = some (.int .i32 n) ∧ w'.cell? ⟨w.heap.size, 3, none⟩ = some (.bool x) ∧ w'.cell? ⟨w.heap.size, 4, none⟩ = some (.int .u32 r) := by
  have h := (Blk.new w t #[.int .i64 k, .string nm, .int .i32 n, .bool x, .int .u32 r]).below hB (by omega)
  exact ⟨h.cell 0, h.cell 1, h.cell 2, h.cell 3, h.cell 4⟩
theorem it_keep {w w1 w2 : World} {k n r : Int} {nm : ByteArray} {x : Bool} {t : TypeId} (h1 : Below (w.heap.size + 1) (w.alloc (.cells #[.int .i64 k, .string nm, .int .i32 n, .bool x, .int .u32 r] t)) w1) (h2 : Below w1.drew.heap.size w1.drew w2) :
    w2.cell? ⟨w.heap.size, 0, none⟩ = some (.int .i64 k) ∧ w2.cell? ⟨w.heap.size, 1, none⟩ = some (.string nm) ∧ w2.cell? ⟨w.heap.size, 2, none⟩ = some (.int .i32 n) ∧ w2.cell? ⟨w.heap.size, 3, none⟩ = some (.bool x) ∧ w2.cell? ⟨w.heap.size, 4, none⟩ = some (.int .u32 r) := by
  have hs : w.heap.size + 1 ≤ w1.heap.size := by have := h1.size; simpa using this
  exact it_box (h1.drew.trans (h2.mono hs))

/-- A list that is empty. -/
theorem new_none {w w' : World} (hB : Below w.heap.size w w') : NewLen w 0 (.returned (.slice none 0 0)) w' := ⟨_, [], rfl, rfl, fun _ hz => absurd hz List.not_mem_nil, World.ownsRow_nil _ _ _ _, hB⟩

end Go.Proofs.YtllhcdkbgknjdaaDoor

namespace Go.Proofs.YtllhcdkbgknjdaaDoor
open Go.RowKit

def codesTab : List Int := [0, 1, 2, 3, 4, 5, 6, 7, 16, 17, 18, 19, 20, 21, 22, 23, 96, 97, 98, 99, 100, 101, 102, 103, 104, 105, 106, 107, 108, 109, 110, 111, 112, 113, 114, 115, 116, 117, 118, 119, 120, 121, 122, 123, 124, 125, 126, 127]
theorem gCodes : Tryd.prog.globalNamed "loop.example/g00711/impl.codes" = some 1 := by kernel_rfl
theorem tCodes : (Tryd.prog.globals[1]?).map (·.type) = some 127 := by kernel_rfl
theorem codes_eq : Rows.laid_loop_example_g00711_impl_codes = Lib.tabData (H := Unit) .u8 codesTab := by kernel_rfl
theorem cCodes : Tryd.prog.cellsOf 127 = 48 := by kernel_rfl
theorem cCodesE : Tryd.prog.cellsOf 5 = 1 := by kernel_rfl

/-- The variable holds the codes. -/
def Codes (w : World) : Prop := 1 < w.heap.size ∧ w.var? Tryd.prog "loop.example/g00711/impl.codes" = some (codesTab.map fun z => Value.int .u8 z).toArray
theorem codes_of_laid {W : World} {rest : List (String × DataW Unit)} (h : laidMet Tryd.prog (("loop.example/g00711/impl.codes", Rows.laid_loop_example_g00711_impl_codes) :: rest) W) : Codes W := by
  rw [codes_eq] at h
  have ht : Lib.TabIs Tryd.prog W "loop.example/g00711/impl.codes" .u8 codesTab := Lib.tabIs_of_head gCodes tCodes Tryd.underlying127 Tryd.underlying5 cCodesE cCodes h
  refine ⟨?_, ht⟩
  have hc : W.cell? ⟨1, 0, none⟩ = some (.int .u8 0) := ht.cell gCodes 0 (by decide)
  rcases Nat.lt_or_ge 1 W.heap.size with hl | hl
  · exact hl
  · have e : W.heap[1]? = none := Array.getElem?_eq_none hl
    simp [World.cell?, e] at hc
theorem Codes.below {w w' : World} (h : Codes w) (hb : Below w.heap.size w w') : Codes w' := ⟨Nat.lt_of_lt_of_le h.1 hb.size, var?_below h.2 hb⟩
theorem Codes.cell {w : World} (h : Codes w) (i : Nat) (hi : i < codesTab.length) : w.cell? ⟨1, i, none⟩ = some (.int .u8 (codesTab.getD i 0)) := Lib.TabIs.cell (zs := codesTab) h.2 gCodes i hi
end Go.Proofs.YtllhcdkbgknjdaaDoor

namespace Go.Proofs.YtllhcdkbgknjdaaDoor
open Go

/-- Both numbers' bits together. -/
def orU (x y : Nat) : Nat := (bits .or .u32 (x : Int) (y : Int)).toNat
/-- A word's cells with a tag that need not be one. -/
def wordT (tag : Nat) : List Nat → List Nat
  | [] => []
  | f :: r => orU (f * 16) tag :: r.map (fun g => orU (g * 16) 0)
def numT (n : Int) (h : Bool) (tag long : Nat) : List Nat :=
  if wideN n = true then [orU (hexN h) long, lowN n] else [orU (orU (lowN n * 32 % 4294967296) (hexN h)) tag]
def varT (tag : Nat) : List Nat → Int → List Nat
  | [f], n => [orU (f * 16) tag, lowN n]
  | _, _ => []
/-- The cells of an item, with any tags. -/
def cellsT (tg : Nat → Nat) (it : It) : List Nat :=
  if wordK it.kind = true then (if it.n = 0 ∧ it.hex = false ∧ it.raw = 0 then wordT (tg it.kind.toNat) (packs it.name.data.toList) else [])
  else if numK it.kind = true then (if it.name = noText ∧ it.raw = 0 then numT it.n it.hex (tg it.kind.toNat) (longOf it.kind) else [])
  else if it.kind = 9 then (if it.hex = false ∧ it.raw = 0 then varT (tg 9) (packs it.name.data.toList) it.n else [])
  else if it.kind = 0 ∧ it.name = noText ∧ it.n = 0 ∧ it.hex = false then [it.raw] else []
theorem cellsT_raw (tg : Nat → Nat) (c : Nat) : cellsT tg (rawIt c) = [c] := by
  simp [cellsT, rawIt, noText, wordK, numK]

/-- How many cells may hold one name. -/
def moreC (c : Nat) : Bool := decide (c ≠ 0 ∧ c % 16 = 0)
def spanC : List Nat → Nat
  | [] => 1
  | _ :: r => 1 + (r.takeWhile moreC).length
/-- What would have to stand first. -/
def guessC (cells : List Nat) : It × Nat :=
  let first := cells.getD 0 0
  let next := cells.getD 1 0
  let t := first % 16
  let hex := decide (first / 16 % 2 = 1)
  if 0 ≤ kindT t then (⟨kindT t, ⟨(unpacked ((cells.take (spanC cells)).map (· / 16))).toArray⟩, 0, false, 0⟩, spanC cells)
  else if t = 8 then (⟨7, noText, sgn first / 32, hex, 0⟩, 1)
  else if t = 6 then (⟨8, noText, sgn first / 32, hex, 0⟩, 1)
  else if t = 2 then (⟨7, noText, sgn next, hex, 0⟩, 2)
  else if t = 5 then (⟨8, noText, sgn next, hex, 0⟩, 2)
  else if t = 12 then (⟨9, ⟨(unpOne (first / 16)).toArray⟩, sgn next, false, 0⟩, 2)
  else (rawIt first, 1)
def firstC (C : It → List Nat) (cells : List Nat) : It × Nat :=
  if (guessC cells).2 ≤ cells.length ∧ C (guessC cells).1 = cells.take (guessC cells).2 then guessC cells else (rawIt (cells.getD 0 0), 1)
theorem spanC_pos (cells : List Nat) : 1 ≤ spanC cells := by cases cells <;> simp [spanC]
theorem spanC_le {cells : List Nat} (h : cells ≠ []) : spanC cells ≤ cells.length := by
  cases cells with
  | nil => exact absurd rfl h
  | cons a r => have := (List.takeWhile_sublist moreC (l := r)).length_le; simp only [spanC, List.length_cons]; omega
theorem guessC_pos (cells : List Nat) : 1 ≤ (guessC cells).2 ∧ ((guessC cells).2 ≤ 2 ∨ (guessC cells).2 = spanC cells) := by
  have := spanC_pos cells
  unfold guessC
  dsimp only
  (repeat' split) <;> refine ⟨?_, ?_⟩ <;> simp <;> omega
theorem firstC_pos (C : It → List Nat) (cells : List Nat) : 1 ≤ (firstC C cells).2 := by
  unfold firstC
  split
  · exact (guessC_pos cells).1
  · exact Nat.le_refl 1
theorem firstC_le (C : It → List Nat) {cells : List Nat} (h : cells ≠ []) : (firstC C cells).2 ≤ cells.length := by
  unfold firstC
  split
  · rename_i hc; exact hc.1
  · exact List.length_pos_iff.2 h
theorem firstC_cells {C : It → List Nat} (hC : ∀ c, C (rawIt c) = [c]) {cells : List Nat} (h : cells ≠ []) : C (firstC C cells).1 = cells.take (firstC C cells).2 := by
  unfold firstC
  split
  · rename_i hc; exact hc.2
  · rw [hC]
    cases cells with
    | nil => exact absurd rfl h
    | cons a r => rfl
theorem span_zeros {p : List Nat} (h : p ≠ []) (k : Nat) : spanC (p ++ List.replicate k 0) = spanC p := by
  cases p with
  | nil => exact absurd rfl h
  | cons a r =>
    simp only [List.cons_append, spanC]
    congr 2
    induction r with
    | nil =>
      cases k with
      | zero => rfl
      | succ k => simp [List.replicate_succ, moreC]
    | cons b r ih =>
      simp only [List.cons_append, List.takeWhile_cons]
      rw [ih (by simp)]
theorem getD_zeros (p : List Nat) (k i : Nat) : (p ++ List.replicate k 0).getD i 0 = p.getD i 0 := by
  simp only [List.getD_eq_getElem?_getD, List.getElem?_append, List.getElem?_replicate]
  by_cases h : i < p.length
  · rw [if_pos h]
  · rw [if_neg h, List.getElem?_eq_none (by omega)]
    split <;> rfl
theorem guess_zeros {p : List Nat} (h : p ≠ []) (k : Nat) : guessC (p ++ List.replicate k 0) = guessC p := by
  have h1 := span_zeros h k
  have h2 := spanC_le h
  unfold guessC
  rw [getD_zeros, getD_zeros, h1, List.take_append_of_le_length h2]
theorem first_zeros {C : It → List Nat} {p : List Nat} (h : p ≠ []) {k : Nat} (hl : (firstC C (p ++ List.replicate k 0)).2 ≤ p.length) : firstC C p = firstC C (p ++ List.replicate k 0) := by
  unfold firstC at hl ⊢
  rw [guess_zeros h, getD_zeros] at hl ⊢
  by_cases hc : (guessC p).2 ≤ (p ++ List.replicate k 0).length ∧ C (guessC p).1 = (p ++ List.replicate k 0).take (guessC p).2
  · rw [if_pos hc] at hl ⊢
    rw [List.take_append_of_le_length hl] at hc
    rw [if_pos ⟨hl, hc.2⟩]
  · rw [if_neg hc]
    rw [if_neg (fun h2 => hc ⟨by rw [List.length_append]; omega, by rw [List.take_append_of_le_length h2.1]; exact h2.2⟩)]

/-- All items of cells. -/
inductive Parses (C : It → List Nat) : List Nat → List It → Prop
  | nil : Parses C [] []
  | step {cells : List Nat} {l : List It} : cells ≠ [] → Parses C (cells.drop (firstC C cells).2) l → Parses C cells ((firstC C cells).1 :: l)
theorem Parses.unique {C : It → List Nat} {cells : List Nat} {l m : List It} (h : Parses C cells l) (k : Parses C cells m) : l = m := by
  induction h generalizing m with
  | nil => cases k with
    | nil => rfl
    | step h _ => exact absurd rfl h
  | step h0 _ ih => cases k with
    | nil => exact absurd rfl h0
    | step _ k => rw [ih k]
theorem Parses.some (C : It → List Nat) : ∀ (n : Nat) (cells : List Nat), cells.length ≤ n → ∃ l, Parses C cells l
  | 0, cells, h => ⟨[], by rw [List.eq_nil_of_length_eq_zero (Nat.le_zero.1 h)]; exact .nil⟩
  | n + 1, cells, h => by
    by_cases h0 : cells = []
    · exact ⟨[], by rw [h0]; exact .nil⟩
    · have hp := firstC_pos C cells
      obtain ⟨l, hl⟩ := Parses.some C n (cells.drop (firstC C cells).2) (by rw [List.length_drop]; omega)
      exact ⟨_, .step h0 hl⟩
theorem Parses.cells {C : It → List Nat} (hC : ∀ c, C (rawIt c) = [c]) {cells : List Nat} {l : List It} (h : Parses C cells l) : l.flatMap C = cells := by
  induction h with
  | nil => rfl
  | step h0 _ ih => rw [List.flatMap_cons, ih, firstC_cells hC h0, List.take_append_drop]
theorem Parses.len {C : It → List Nat} {cells : List Nat} {l : List It} (h : Parses C cells l) : l.length ≤ cells.length := by
  induction h with
  | nil => exact Nat.le_refl 0
  | step h0 _ ih =>
    rename_i cs l' _
    have h1 := firstC_pos C cs
    have h2 := List.length_pos_iff.2 h0
    rw [List.length_drop] at ih
    rw [List.length_cons]
    omega
theorem Parses.some_each {C : It → List Nat} (hC : ∀ c, C (rawIt c) = [c]) {cells : List Nat} {l : List It} (h : Parses C cells l) : ∀ it ∈ l, C it ≠ [] := by
  induction h with
  | nil => exact fun _ h => absurd h List.not_mem_nil
  | step h0 _ ih =>
    rename_i cs l' _
    intro it hit
    rcases List.mem_cons.1 hit with rfl | hit
    · rw [firstC_cells hC h0]
      intro e
      have h1 := firstC_pos C cs
      have h2 := List.length_pos_iff.2 h0
      have := congrArg List.length e
      rw [List.length_take, List.length_nil] at this
      omega
    · exact ih it hit
theorem flat_zeros {C : It → List Nat} (hC : ∀ c, C (rawIt c) = [c]) (k : Nat) : (List.replicate k zeroIt).flatMap C = List.replicate k 0 := by
  induction k with
  | zero => rfl
  | succ k ih => rw [List.replicate_succ, List.flatMap_cons, ih, zeroIt, hC, List.replicate_succ]; rfl
theorem Parses.front {C : It → List Nat} (hC : ∀ c, C (rawIt c) = [c]) {k : Nat} : ∀ {l : List It} {cells : List Nat}, Parses C cells (l ++ List.replicate k zeroIt) → Parses C (l.flatMap C) l
  | [], _, _ => .nil
  | a :: l, cells, h => by
    have hall := h.cells hC
    cases h with
    | step h0 h =>
      have ih := Parses.front hC h
      have hlen := firstC_le C h0
      have hf := firstC_cells hC h0
      rw [List.cons_append, List.flatMap_cons, List.flatMap_append, flat_zeros hC, ← List.append_assoc] at hall
      have hp : C (firstC C cells).1 ++ l.flatMap C ≠ [] := by
        intro e
        have h3 := congrArg List.length e
        rw [List.length_append, hf, List.length_take, List.length_nil] at h3
        have h1 := firstC_pos C cells
        have h2 := List.length_pos_iff.2 h0
        omega
      have hq : (firstC C (C (firstC C cells).1 ++ l.flatMap C ++ List.replicate k 0)).2 ≤ (C (firstC C cells).1 ++ l.flatMap C).length := by
        rw [hall, List.length_append, hf, List.length_take]
        omega
      have hfirst := first_zeros hp hq
      rw [hall] at hfirst
      rw [List.flatMap_cons]
      have hdrop : (C (firstC C cells).1 ++ l.flatMap C).drop (firstC C cells).2 = l.flatMap C := by
        have hl2 : (C (firstC C cells).1).length = (firstC C cells).2 := by rw [hf, List.length_take]; omega
        rw [← hl2, List.drop_left]
      have := Parses.step (C := C) (l := l) hp (by rw [hfirst, hdrop]; exact ih)
      rw [hfirst] at this
      exact this

/-- Without the noughts at the end. -/
def trimI : List It → List It
  | [] => []
  | a :: l => if trimI l = [] ∧ a = zeroIt then [] else a :: trimI l
theorem trimI_split : ∀ l : List It, ∃ k, l = trimI l ++ List.replicate k zeroIt
  | [] => ⟨0, rfl⟩
  | a :: l => by
    obtain ⟨k, hk⟩ := trimI_split l
    unfold trimI
    split
    · rename_i h
      refine ⟨k + 1, ?_⟩
      rw [List.nil_append, List.replicate_succ, h.2]
      rw [h.1, List.nil_append] at hk
      rw [← hk]
    · exact ⟨k, by rw [List.cons_append, ← hk]⟩
theorem trimI_zero : ∀ l : List It, trimI (l ++ [zeroIt]) = trimI l
  | [] => by simp [trimI]
  | a :: l => by rw [List.cons_append, trimI, trimI, trimI_zero l]
theorem trimI_last : ∀ (l : List It) (a : It), a ≠ zeroIt → trimI (l ++ [a]) = l ++ [a]
  | [], a, h => by simp [trimI, h]
  | b :: l, a, h => by rw [List.cons_append, trimI, trimI_last l a h, if_neg (fun h2 => by simp at h2)]
theorem trimI_idem (l : List It) : trimI (trimI l) = trimI l := by
  induction l with
  | nil => rfl
  | cons a l ih =>
    rw [trimI]
    split
    · rfl
    · rename_i h; rw [trimI, ih, if_neg h]
theorem trimI_len (l : List It) : (trimI l).length ≤ l.length := by
  obtain ⟨k, hk⟩ := trimI_split l
  have := congrArg List.length hk
  rw [List.length_append] at this
  omega
theorem trimI_mem {l : List It} {it : It} (h : it ∈ trimI l) : it ∈ l := by
  obtain ⟨k, hk⟩ := trimI_split l
  rw [hk]
  exact List.mem_append_left _ h

/-- What is parsed unparses to the same cells with noughts behind them, and these parse as before. -/
theorem parse_back {C : It → List Nat} (hC : ∀ c, C (rawIt c) = [c]) {cells : List Nat} {l : List It} (h : Parses C cells l) :
    (∃ k, cells = (trimI l).flatMap C ++ List.replicate k 0) ∧ Parses C ((trimI l).flatMap C) (trimI l) ∧ (∀ it ∈ trimI l, C it ≠ []) := by
  obtain ⟨k, hk⟩ := trimI_split l
  refine ⟨⟨k, ?_⟩, ?_, fun it hit => h.some_each hC it (trimI_mem hit)⟩
  · rw [← flat_zeros hC, ← List.flatMap_append, ← hk, h.cells hC]
  · rw [hk] at h
    exact h.front hC
end Go.Proofs.YtllhcdkbgknjdaaDoor

namespace Go.Proofs.YtllhcdkbgknjdaaDoor
open Go.RowKit Go

def kindsTab : List Int := [0, 1, 7, 2, 3, 8, 8, 0, 7, 4, 5, 6, 9, 0, 0, 0]
theorem gKinds : Tryd.prog.globalNamed "loop.example/g00711/impl.kinds" = some 0 := by kernel_rfl
theorem tKinds : (Tryd.prog.globals[0]?).map (·.type) = some 102 := by kernel_rfl
theorem kinds_eq : Rows.laid_loop_example_g00711_impl_kinds = Lib.tabData (H := Unit) .i64 kindsTab := by kernel_rfl
theorem cKinds : Tryd.prog.cellsOf 102 = 16 := by kernel_rfl
theorem cKindsE : Tryd.prog.cellsOf 3 = 1 := by kernel_rfl
/-- The variable holds the kinds. -/
def Kinds (w : World) : Prop := 0 < w.heap.size ∧ w.var? Tryd.prog "loop.example/g00711/impl.kinds" = some (kindsTab.map fun z => Value.int .i64 z).toArray
theorem kinds_of_laid {W : World} {rest : List (String × DataW Unit)} (h : laidMet Tryd.prog (("loop.example/g00711/impl.kinds", Rows.laid_loop_example_g00711_impl_kinds) :: rest) W) : Kinds W := by
  rw [kinds_eq] at h
  have ht : Lib.TabIs Tryd.prog W "loop.example/g00711/impl.kinds" .i64 kindsTab := Lib.tabIs_of_head gKinds tKinds Tryd.underlying102 Tryd.underlying3 cKindsE cKinds h
  refine ⟨?_, ht⟩
  have hc : W.cell? ⟨0, 0, none⟩ = some (.int .i64 0) := ht.cell gKinds 0 (by decide)
  exact lt_of_cell_tab hc
theorem Kinds.below {w w' : World} (h : Kinds w) (hb : Below w.heap.size w w') : Kinds w' := ⟨Nat.lt_of_lt_of_le h.1 hb.size, var?_below h.2 hb⟩
theorem Kinds.cell {w : World} (h : Kinds w) (i : Nat) (hi : i < 16) : w.cell? ⟨0, i, none⟩ = some (.int .i64 (kindsTab.getD i 0)) := Lib.TabIs.cell (zs := kindsTab) h.2 gKinds i hi

/-- The tables: tags that are told by tg, the codes and kinds of the program's text. -/
structure TabsT (tg : Nat → Nat) (w : World) : Prop where
  lt : ∀ i, i < 10 → tg i < 4294967296
  tag : ∀ i, i < 10 → w.cell? ⟨3, i, none⟩ = some (.int .u32 (tg i : Int))
  codes : Codes w
  kinds : Kinds w
theorem TabsT.below {tg : Nat → Nat} {w w' : World} (h : TabsT tg w) (hb : Below w.heap.size w w') : TabsT tg w' :=
  ⟨h.lt, fun i hi => (hb.cell (lt_of_cell_tab (h.tag i hi))).trans (h.tag i hi), h.codes.below hb, h.kinds.below hb⟩
def tagAt (w : World) (i : Nat) : Nat := match w.cell? ⟨3, i, none⟩ with | some (.int _ m) => m.toNat | _ => 0
theorem tabsT_of {w : World} (h : w.ShapedOpen Tryd.prog) (hc : Codes w) (hk : Kinds w) : TabsT (tagAt w) w := by
  have h1 := (tabs_of_shape h).1
  refine ⟨fun i hi => ?_, fun i hi => ?_, hc, hk⟩
  · obtain ⟨x, hx, hcell⟩ := h1 i hi
    unfold tagAt
    rw [hcell]
    simpa using hx
  · obtain ⟨x, hx, hcell⟩ := h1 i hi
    unfold tagAt
    rw [hcell]
    simp
end Go.Proofs.YtllhcdkbgknjdaaDoor

namespace Go.Proofs.YtllhcdkbgknjdaaDoor
open Go.RowKit

theorem tab_bits : ∀ k : Nat, k < 48 → codesTab.getD k 0 = bitsOf k := by decide
theorem impl_bitsof (k : Int) (w : World) (hc : Codes w) : Calls Tryd.prog 104 #[.int .i64 k] w fun e w' => e = .returned (.int .u32 (bitsOf k)) ∧ w = w' := by
  by_cases h : 0 ≤ k ∧ k ≤ 47
  · obtain ⟨n, rfl⟩ : ∃ n : Nat, k = n := ⟨k.toNat, by omega⟩
    have hb := Lib.hid (inB_true h.1 h.2)
    have hi := Lib.hid (isletter_any (n : Int) w)
    have hn : n < 48 := by omega
    have hcell := hc.cell n hn
    rw [tab_bits n hn] at hcell
    have hr := bitsOf_range (n : Int)
    obtain ⟨v, hv⟩ : ∃ v, bitsOf (n : Int) = v := ⟨_, rfl⟩
    rw [hv] at hcell hr ⊢
    obtain ⟨hr0, hr1⟩ := hr
    clear hv h hc
    go_enter Tryd.func104, Tryd.ntmps104
    go_wp2_with fail
    refine hi.out.mono ?_
    rintro e w' ⟨he, rfl⟩
    rw [hb.out] at he
    subst he
    go_wp2_with fail
    go_ret
    exact ⟨rfl, rfl⟩
  · have e : bitsOf k = 0 := by
      unfold bitsOf
      by_cases h0 : k < 0
      · rw [if_pos h0]
      · rw [if_neg h0, if_neg (by omega), if_neg (by omega), if_neg (by omega)]
    rw [e]
    have hb := Lib.hid (inB_false h)
    clear h e hc
    go_enter Tryd.func104, Tryd.ntmps104
    go_wp2_with fail
    refine (isletter_any _ _).mono ?_
    rintro e w' ⟨he, rfl⟩
    rw [hb.out] at he
    subst he
    go_wp2_with fail
    go_ret
    exact ⟨rfl, rfl⟩

end Go.Proofs.YtllhcdkbgknjdaaDoor

namespace Go.Proofs.YtllhcdkbgknjdaaDoor
open Go.RowKit Go

set_option maxHeartbeats 1000000 in
theorem impl_fill (v : Value) (l : List UInt8) (w : World) (hv : RdB w v l) (hcs : Codes w) :
    Calls Tryd.prog 102 #[v] w fun e w' => e = .returned (.tuple #[.int .u32 ((fillN 28 l).1 : Int), .int .i64 ((fillN 28 l).2 : Int)]) ∧ w = w' := by
  obtain ⟨A, cap, rfl, hlc, hl62, hcell⟩ := hv
  have HC := Lib.hid hcell
  obtain ⟨p, q, hpq⟩ : ∃ p q, fillN 28 l = (p, q) := ⟨_, _, rfl⟩
  rw [hpq]
  have HD : Hid (∀ F free n, Fill l F free n → n = l.length → p = F ∧ q = n) := Lib.hid fun F free n h e => by
    rw [h.done e] at hpq; injection hpq with e1 e2; exact ⟨e1.symm, e2.symm⟩
  have HF : Hid (∀ F free n (h : Fill l F free n) (hn : n < l.length), free < wB l[n] → p = F ∧ q = n) := Lib.hid fun F free n h hn e => by
    rw [h.full hn e] at hpq; injection hpq with e1 e2; exact ⟨e1.symm, e2.symm⟩
  have HCS := Lib.hid hcs
  clear hpq hcell hcs hlc
  go_enter Tryd.func102, Tryd.ntmps102
  go_wp2
  go_loop [4, 5, 12] (fun vf vl vn => ∃ F free n : Nat, vf = .int .u32 F ∧ vl = .int .i64 free ∧ vn = .int .i64 n ∧ Hid (Fill l F free n)) (fun _ _ vn => l.length - (intOf vn).toNat)
  case atStart => exact ⟨0, 28, 0, rfl, rfl, rfl, Lib.hid (Fill.start l)⟩
  case round =>
    obtain ⟨F, free, n, rfl, rfl, rfl, HR⟩ := hrel
    have hn := HR.out.nle
    have h28 := HR.out.le
    have hlt := HR.out.lt
    by_cases hp : n < l.length
    · obtain ⟨a, rfl, -, hc⟩ := HC.out n hp
      have hck := u8_le l[n]
      have hw := wB_le l[n]
      have HL : Hid (∀ W, Calls Tryd.prog 103 #[.int .u8 (l[n].toNat : Int)] W fun e w' => e = .returned (.int .i64 (letOf l[n])) ∧ W = w') := Lib.hid fun W => impl_letterof l[n] W
      have HW : Hid (∀ W, Calls Tryd.prog 99 #[.int .i64 (letOf l[n])] W fun e w' => e = .returned (.int .i64 (wB l[n] : Int)) ∧ W = w') := Lib.hid fun W => by rw [wB_int]; exact impl_widthof _ W
      have HB : Hid (Calls Tryd.prog 104 #[.int .i64 (letOf l[n])] w fun e w' => e = .returned (.int .u32 (bB l[n] : Int)) ∧ w = w') := Lib.hid (by rw [bB_int]; exact impl_bitsof _ w HCS.out)
      have hbl := bB_le l[n]
      have hFull := HF.out F free n HR.out hp
      have hMore := HR.out.more hp
      have hOr := fun h : wB l[n] ≤ free => or_fit HR.out.lt HR.out.mod (bB_lt l[n]) h HR.out.le
      have HLr := letOf_range l[n]
      obtain ⟨z, hz⟩ : ∃ z, letOf l[n] = z := ⟨_, rfl⟩
      obtain ⟨d, hd⟩ : ∃ d, wB l[n] = d := ⟨_, rfl⟩
      obtain ⟨b, hb⟩ : ∃ b, bB l[n] = b := ⟨_, rfl⟩
      rw [hz] at HL HW HB HLr
      rw [hd] at HW hFull hMore hOr hw
      rw [hb] at HB hMore hOr hbl
      have HFULL := Lib.hid hFull
      have HMORE := Lib.hid hMore
      have HOR := Lib.hid hOr
      clear hz hd hb hFull hMore hOr
      by_cases hfit : d ≤ free
      · have hA := HOR.out hfit
        obtain ⟨F2, hF2⟩ : ∃ F2, F + b * 2 ^ (free - d) = F2 := ⟨_, rfl⟩
        have HM := HMORE.out hfit
        rw [hF2] at hA HM
        have HM := Lib.hid HM
        have hnn : (0 : Int) ≤ (free : Int) - (d : Int) := by omega
        clear hF2
        go_wp2_with fail
        refine (HL.out _).mono ?_
        rintro e w' ⟨rfl, rfl⟩
        go_wp2_with fail
        refine (HW.out _).mono ?_
        rintro e w' ⟨rfl, rfl⟩
        go_wp2_with fail
        refine HB.out.mono ?_
        rintro e w' ⟨rfl, rfl⟩
        go_wp2_with fail
        go_round
        case rel => exact ⟨F2, free - d, n + 1, by first | go_num | (simpa using hA), by go_num, by go_num, HM⟩
        case measure => simp [intOf]; omega
      · have hgt : free < d := by omega
        have HQ := Lib.hid (HFULL.out (by omega))
        clear hfit
        go_wp2_with fail
        refine (HL.out _).mono ?_
        rintro e w' ⟨rfl, rfl⟩
        go_wp2_with fail
        refine (HW.out _).mono ?_
        rintro e w' ⟨rfl, rfl⟩
        go_wp2_with fail
        obtain ⟨rfl, rfl⟩ := HQ.out
        go_ret2
        exact ⟨rfl, rfl⟩
    · have HQ := Lib.hid (HD.out F free n HR.out (by omega))
      obtain rfl : n = l.length := by omega
      go_wp2_with fail
      obtain ⟨rfl, rfl⟩ := HQ.out
      go_ret2
      exact ⟨rfl, rfl⟩

end Go.Proofs.YtllhcdkbgknjdaaDoor
