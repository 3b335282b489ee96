/-
  Whether two items are alike; what kind of shape an item has.
  The shape of an item, by its kind.
  CellsOf of the program: how many cells there are, whatever the tables hold.
  CellsOf of the program at a word: how many cells there are, whatever the tables hold.
  CellsOf of the program at a number: how many cells there are, whatever the tables hold.
  CellsOf of the program at a variable: how many cells there are, whatever the tables hold.
  CellsOf of the program at a raw cell: how many cells there are, whatever the tables hold.
  CellsOf and ItemOk of the program: how many cells an item has, whatever the tables hold.
  Which kinds go over into one another; a text's clone.
  Recolor of the program, whatever the tables hold.
  The model's cells of a word and of a number: how many there are.
  The model's cells of a number, and the tags of words.
  The model's CellsOf at a raw cell: how many cells there are.
  The model's CellsOf at a number: how many cells there are.
  The model's CellsOf at a number: how many cells there are.
-/
import Derived.Test.YtogdbfjagnbllaaGreatDoorIF4
import Derived.Laws.StructEq
import Derived.Test.YtogdbfjagnbllaaGreatDoorShelf
import Derived.Test.YtogdbfjagnbllaaGreatDoorIF2
import Derived.Handy
namespace Go.Proofs.YtogdbfjagnbllaaGreatDoor
open Go.RowKit Go

theorem item_eql_raw (w : World) (k1 : Int) (nm1 : ByteArray) (n1 : Int) (x1 : Bool) (r1 : Int) (k2 : Int) (nm2 : ByteArray) (n2 : Int) (x2 : Bool) (r2 : Int) :
    (binOp .eql 38 (itA k1 nm1 n1 x1 r1) (itA k2 nm2 n2 x2 r2)).run Tryz.prog w = .ok (.bool (k1 == k2 && (nm1.toList == nm2.toList && (n1 == n2 && (x1 == x2 && r1 == r2))))) w := by
  simp [go_sem, Tryz.underlying38, Tryz.underlying3, Tryz.underlying9, Tryz.underlying21, Tryz.underlying4, Tryz.underlying36]
  (repeat' split) <;> simp_all
theorem item_neq_raw (w : World) (k1 : Int) (nm1 : ByteArray) (n1 : Int) (x1 : Bool) (r1 : Int) (k2 : Int) (nm2 : ByteArray) (n2 : Int) (x2 : Bool) (r2 : Int) :
    (binOp .neq 38 (itA k1 nm1 n1 x1 r1) (itA k2 nm2 n2 x2 r2)).run Tryz.prog w = .ok (.bool (!(k1 == k2 && (nm1.toList == nm2.toList && (n1 == n2 && (x1 == x2 && r1 == r2)))))) w := by
  simp [go_sem, Tryz.underlying38, Tryz.underlying3, Tryz.underlying9, Tryz.underlying21, Tryz.underlying4, Tryz.underlying36]
  (repeat' split) <;> simp_all
theorem text_inj {a b : ByteArray} : a.toList = b.toList ↔ a = b := by
  rw [ByteArray.toList_eq, ByteArray.toList_eq]
  exact ⟨fun h => Go.WideShapes.bytes_inj h, fun h => by rw [h]⟩
theorem same_iff (a b : It) : (a.kind == b.kind && (a.name.toList == b.name.toList && (a.n == b.n && (a.hex == b.hex && (a.raw : Int) == (b.raw : Int))))) = decide (a = b) := by
  obtain ⟨k1, nm1, n1, x1, r1⟩ := a
  obtain ⟨k2, nm2, n2, x2, r2⟩ := b
  rw [Bool.eq_iff_iff]
  simp [text_inj]
  intro _ _ _ _
  omega
/-- The value of an item. -/
abbrev itVal (a : It) : Value := itA a.kind a.name a.n a.hex (a.raw : Int)
theorem item_eql (w : World) (a b : It) : (binOp .eql 38 (itVal a) (itVal b)).run Tryz.prog w = .ok (.bool (decide (a = b))) w := by rw [item_eql_raw, same_iff]
theorem item_neq (w : World) (a b : It) : (binOp .neq 38 (itVal a) (itVal b)).run Tryz.prog w = .ok (.bool (!decide (a = b))) w := by rw [item_neq_raw, same_iff]

theorem isword_any (k : Int) (w : World) : Calls Tryz.prog 53 #[.int .i64 k] w fun e w' => e = .returned (.bool (wordK k)) ∧ w = w' := by
  by_cases h1 : 1 ≤ k
  · by_cases h2 : k ≤ 6
    · have e : wordK k = true := decide_eq_true ⟨h1, h2⟩
      rw [e]
      clear e
      go_enter Tryz.func53, Tryz.ntmps53
      go_wp2_with fail
      go_ret
      exact ⟨rfl, rfl⟩
    · have e : wordK k = false := decide_eq_false (by omega)
      rw [e]
      clear e
      go_enter Tryz.func53, Tryz.ntmps53
      go_wp2_with fail
      go_ret
      exact ⟨rfl, rfl⟩
  · have e : wordK k = false := decide_eq_false (by omega)
    rw [e]
    clear e
    go_enter Tryz.func53, Tryz.ntmps53
    go_wp2_with fail
    go_ret
    exact ⟨rfl, rfl⟩
theorem isnumber_any (k : Int) (w : World) : Calls Tryz.prog 54 #[.int .i64 k] w fun e w' => e = .returned (.bool (numK k)) ∧ w = w' := by
  by_cases h1 : k = 7
  · have e : numK k = true := decide_eq_true (by omega)
    have b1 : (k == 7) = true := by simpa using h1
    rw [e]
    clear e h1
    go_enter Tryz.func54, Tryz.ntmps54
    go_wp2_with fail
    go_ret
    exact ⟨rfl, rfl⟩
  · have b1 : (k == 7) = false := by simpa using h1
    by_cases h2 : k = 8
    · have e : numK k = true := decide_eq_true (by omega)
      have b2 : (k == 8) = true := by simpa using h2
      rw [e]
      clear e h1 h2
      go_enter Tryz.func54, Tryz.ntmps54
      go_wp2_with fail
      go_ret
      exact ⟨rfl, rfl⟩
    · have b2 : (k == 8) = false := by simpa using h2
      have e : numK k = false := decide_eq_false (by omega)
      rw [e]
      clear e h1 h2
      go_enter Tryz.func54, Tryz.ntmps54
      go_wp2_with fail
      go_ret
      exact ⟨rfl, rfl⟩
end Go.Proofs.YtogdbfjagnbllaaGreatDoor

namespace Go.Proofs.YtogdbfjagnbllaaGreatDoor
open Go.RowKit Go

set_option maxHeartbeats 1000000 in
theorem shape_word (it : It) (h : wordK it.kind = true) (w : World) : Calls Tryz.prog 96 #[itVal it] w fun e w' => e = .returned (.iface 148 (.agg #[.int .i64 it.kind, .string it.name])) ∧ Below w.heap.size w w' := by
  have HW : Hid (∀ W, Calls Tryz.prog 53 #[.int .i64 it.kind] W fun e w' => e = .returned (.bool true) ∧ W = w') := Lib.hid fun W => by rw [← h]; exact isword_any _ W
  obtain ⟨k, nm, n, x, r⟩ := it
  clear h
  go_enter Tryz.func96, Tryz.ntmps96
  go_wp2_with fail
  refine (HW.out _).mono ?_
  rintro e w' ⟨rfl, rfl⟩
  go_wp2_with fail
  go_ret
  exact ⟨rfl, by go_grown⟩
set_option maxHeartbeats 1000000 in
theorem shape_num (it : It) (h : numK it.kind = true) (w : World) : Calls Tryz.prog 96 #[itVal it] w fun e w' => e = .returned (.iface 150 (.agg #[.int .i64 it.kind, .int .i32 it.n, .bool it.hex])) ∧ Below w.heap.size w w' := by
  have h2 : wordK it.kind = false := by have := of_decide_eq_true h; exact decide_eq_false (by omega)
  have HW : Hid (∀ W, Calls Tryz.prog 53 #[.int .i64 it.kind] W fun e w' => e = .returned (.bool false) ∧ W = w') := Lib.hid fun W => by rw [← h2]; exact isword_any _ W
  have HN : Hid (∀ W, Calls Tryz.prog 54 #[.int .i64 it.kind] W fun e w' => e = .returned (.bool true) ∧ W = w') := Lib.hid fun W => by rw [← h]; exact isnumber_any _ W
  obtain ⟨k, nm, n, x, r⟩ := it
  clear h h2
  go_enter Tryz.func96, Tryz.ntmps96
  go_wp2_with fail
  refine (HW.out _).mono ?_
  rintro e w' ⟨rfl, rfl⟩
  go_wp2_with fail
  refine (HN.out _).mono ?_
  rintro e w' ⟨rfl, rfl⟩
  go_wp2_with fail
  go_ret
  exact ⟨rfl, by go_grown⟩
set_option maxHeartbeats 1000000 in
theorem shape_var (it : It) (h : it.kind = 9) (w : World) : Calls Tryz.prog 96 #[itVal it] w fun e w' => e = .returned (.iface 152 (.agg #[.int .i64 it.kind, .string it.name, .int .i32 it.n])) ∧ Below w.heap.size w w' := by
  have h2 : wordK it.kind = false := decide_eq_false (by omega)
  have h3 : numK it.kind = false := decide_eq_false (by omega)
  have HW : Hid (∀ W, Calls Tryz.prog 53 #[.int .i64 it.kind] W fun e w' => e = .returned (.bool false) ∧ W = w') := Lib.hid fun W => by rw [← h2]; exact isword_any _ W
  have HN : Hid (∀ W, Calls Tryz.prog 54 #[.int .i64 it.kind] W fun e w' => e = .returned (.bool false) ∧ W = w') := Lib.hid fun W => by rw [← h3]; exact isnumber_any _ W
  obtain ⟨k, nm, n, x, r⟩ := it
  have b9 : (k == 9) = true := by simpa using h
  clear h h2 h3
  go_enter Tryz.func96, Tryz.ntmps96
  go_wp2_with fail
  refine (HW.out _).mono ?_
  rintro e w' ⟨rfl, rfl⟩
  go_wp2_with fail
  refine (HN.out _).mono ?_
  rintro e w' ⟨rfl, rfl⟩
  go_wp2_with fail
  go_ret
  exact ⟨rfl, by go_grown⟩
set_option maxHeartbeats 1000000 in
theorem shape_raw (it : It) (h1 : ¬ (1 ≤ it.kind ∧ it.kind ≤ 9)) (w : World) : Calls Tryz.prog 96 #[itVal it] w fun e w' => e = .returned (.iface 154 (.agg #[.int .i64 0, .int .u32 (it.raw : Int)])) ∧ Below w.heap.size w w' := by
  have h2 : wordK it.kind = false := decide_eq_false (by omega)
  have h3 : numK it.kind = false := decide_eq_false (by omega)
  have HW : Hid (∀ W, Calls Tryz.prog 53 #[.int .i64 it.kind] W fun e w' => e = .returned (.bool false) ∧ W = w') := Lib.hid fun W => by rw [← h2]; exact isword_any _ W
  have HN : Hid (∀ W, Calls Tryz.prog 54 #[.int .i64 it.kind] W fun e w' => e = .returned (.bool false) ∧ W = w') := Lib.hid fun W => by rw [← h3]; exact isnumber_any _ W
  have b9 : (it.kind == 9) = false := by simp; omega
  obtain ⟨k, nm, n, x, r⟩ := it
  clear h1 h2 h3
  go_enter Tryz.func96, Tryz.ntmps96
  go_wp2_with fail
  refine (HW.out _).mono ?_
  rintro e w' ⟨rfl, rfl⟩
  go_wp2_with fail
  refine (HN.out _).mono ?_
  rintro e w' ⟨rfl, rfl⟩
  go_wp2_with fail
  go_ret
  exact ⟨rfl, by go_grown⟩
end Go.Proofs.YtogdbfjagnbllaaGreatDoor

namespace Go.Proofs.YtogdbfjagnbllaaGreatDoor
open Go.RowKit Go

theorem it_box {w w' : World} {k n r : Int} {nm : ByteArray} {x : Bool} {t : TypeId} (hB : Below (w.heap.size + 1) (w.alloc (.cells #[.int .i64 k, .string nm, .int .i32 n, .bool x, .int .u32 r] t)) w') :
    w'.cell? ⟨w.heap.size, 0, none⟩ = some (.int .i64 k) ∧ w'.cell? ⟨w.heap.size, 1, none⟩ = some (.string nm) ∧ w'.cell? ⟨w.heap.size, 2, none⟩ = some (.int .i32 n) ∧ w'.cell? ⟨w.heap.size, 3, none⟩ = some (.bool x) ∧ w'.cell? ⟨w.heap.size, 4, none⟩ = some (.int .u32 r) := by
  have h := (Blk.new w t #[.int .i64 k, .string nm, .int .i32 n, .bool x, .int .u32 r]).below hB (by omega)
  exact ⟨h.cell 0, h.cell 1, h.cell 2, h.cell 3, h.cell 4⟩
theorem it_keep {w w1 w2 : World} {k n r : Int} {nm : ByteArray} {x : Bool} {t : TypeId} (h1 : Below (w.heap.size + 1) (w.alloc (.cells #[.int .i64 k, .string nm, .int .i32 n, .bool x, .int .u32 r] t)) w1) (h2 : Below w1.drew.heap.size w1.drew w2) :
    w2.cell? ⟨w.heap.size, 0, none⟩ = some (.int .i64 k) ∧ w2.cell? ⟨w.heap.size, 1, none⟩ = some (.string nm) ∧ w2.cell? ⟨w.heap.size, 2, none⟩ = some (.int .i32 n) ∧ w2.cell? ⟨w.heap.size, 3, none⟩ = some (.bool x) ∧ w2.cell? ⟨w.heap.size, 4, none⟩ = some (.int .u32 r) := by
  have hs : w.heap.size + 1 ≤ w1.heap.size := by have := h1.size; simpa using this
  exact it_box (h1.drew.trans (h2.mono hs))

/-- A list that is empty. -/
theorem new_none {w w' : World} (hB : Below w.heap.size w w') : NewLen w 0 (.returned (.slice none 0 0)) w' := ⟨_, [], rfl, rfl, fun _ hz => absurd hz List.not_mem_nil, World.ownsRow_nil _ _ _ _, hB⟩

end Go.Proofs.YtogdbfjagnbllaaGreatDoor

namespace Go.Proofs.YtogdbfjagnbllaaGreatDoor
open Go.RowKit Go

set_option maxHeartbeats 2000000 in
theorem cellsof_word_yes (k : Int) (nm : ByteArray) (h : wordK k = true) (hs : nm.size ≤ 4611686018427387904) (w : World) (hcs : TabsAny w) :
    Calls Tryz.prog 67 #[itA k nm 0 false 0] w (NewLen w (packs nm.data.toList).length) := by
  have HS := Lib.hid (fun W => shape_word ⟨k, nm, 0, false, 0⟩ h W)
  have HC := Lib.hid (fun W (hb : Below w.heap.size w W) => word_cells k nm (by have := of_decide_eq_true h; omega) (by have := of_decide_eq_true h; omega) hs W (hcs.below hb))
  clear h hcs
  go_enter Tryz.func67, Tryz.ntmps67
  go_wp2_with fail
  refine (HS.out _).mono ?_
  rintro e w1 ⟨rfl, hb⟩
  have hb' : Below (w.heap.size + 1) (w.alloc (.cells #[.int .i64 k, .string nm, .int .i32 0, .bool false, .int .u32 0] 38)) w1 := hb.mono (by simp)
  have HBX := Lib.hid hb'
  have HB := Lib.hid (((Below.refl w.heap.size w).alloc (Nat.le_refl _) _).trans (hb.mono (by simp)))
  clear hb hb' HS
  go_wp2_with fail
  go_region_held3 (fun w' => w'.cell? ⟨w.heap.size, 0, none⟩ = some (.int .i64 k) ∧ w'.cell? ⟨w.heap.size, 1, none⟩ = some (.string nm) ∧ w'.cell? ⟨w.heap.size, 2, none⟩ = some (.int .i32 0) ∧ w'.cell? ⟨w.heap.size, 3, none⟩ = some (.bool false) ∧ w'.cell? ⟨w.heap.size, 4, none⟩ = some (.int .u32 0)) (first | exact it_box HBX.out.drew | go_keep | exact it_keep HBX.out hb2) (first | (go_at_call 190; refine (word_item k nm _).mono ?_; rintro e w2 ⟨rfl, hb2⟩))
  have HB2 := Lib.hid (HB.out.drew.trans (hb2.mono HB.out.size))
  clear hb2
  go_wp2_with fail
  refine (HC.out _ HB2.out).mono ?_
  rintro e w3 ⟨v, zs, rfl, hl, hz, hown, hb3⟩
  have HE := Lib.hid (show NewLen w (packs nm.data.toList).length (.returned v) w3 from ⟨v, zs, rfl, hl, hz, own_base hown HB2.out.size, HB2.out.trans (hb3.mono HB2.out.size)⟩)
  clear hl hz hown hb3
  go_wp2_with fail
  go_ret
  exact HE.out

set_option maxHeartbeats 2000000 in
theorem cellsof_word_no (k : Int) (nm : ByteArray) (n : Int) (x : Bool) (r : Nat) (h : wordK k = true) (hne : (⟨k, nm, 0, false, 0⟩ : It) ≠ ⟨k, nm, n, x, r⟩) (w : World) :
    Calls Tryz.prog 67 #[itA k nm n x (r : Int)] w (NewLen w 0) := by
  have HS := Lib.hid (fun W => shape_word ⟨k, nm, n, x, r⟩ h W)
  have hq : ∀ W : World, (binOp .neq 38 (itA k nm 0 false 0) (itA k nm n x (r : Int))).run Tryz.prog W = .ok (.bool true) W := fun W => by
    have h := item_neq W (⟨k, nm, 0, false, 0⟩) ⟨k, nm, n, x, r⟩
    rw [decide_eq_false hne] at h
    exact h
  clear hne
  clear h
  go_enter Tryz.func67, Tryz.ntmps67
  go_wp2_with fail
  refine (HS.out _).mono ?_
  rintro e w1 ⟨rfl, hb⟩
  have hb' : Below (w.heap.size + 1) (w.alloc (.cells #[.int .i64 k, .string nm, .int .i32 n, .bool x, .int .u32 (r : Int)] 38)) w1 := hb.mono (by simp)
  have HBX := Lib.hid hb'
  have HB := Lib.hid (((Below.refl w.heap.size w).alloc (Nat.le_refl _) _).trans (hb.mono (by simp)))
  clear hb hb' HS
  go_wp2_with fail
  go_region_held3 (fun w' => w'.cell? ⟨w.heap.size, 0, none⟩ = some (.int .i64 k) ∧ w'.cell? ⟨w.heap.size, 1, none⟩ = some (.string nm) ∧ w'.cell? ⟨w.heap.size, 2, none⟩ = some (.int .i32 n) ∧ w'.cell? ⟨w.heap.size, 3, none⟩ = some (.bool x) ∧ w'.cell? ⟨w.heap.size, 4, none⟩ = some (.int .u32 (r : Int))) (first | exact it_box HBX.out.drew | go_keep | exact it_keep HBX.out hb2) (first | (go_at_call 190; refine (word_item k nm _).mono ?_; rintro e w2 ⟨rfl, hb2⟩))
  have HB2 := Lib.hid (HB.out.drew.trans (hb2.mono HB.out.size))
  clear hb2
  go_wp2_with fail
  go_ret
  exact new_none HB2.out

end Go.Proofs.YtogdbfjagnbllaaGreatDoor

namespace Go.Proofs.YtogdbfjagnbllaaGreatDoor
open Go.RowKit Go

set_option maxHeartbeats 2000000 in
theorem cellsof_narrow (k n : Int) (x : Bool) (h : numK k = true) (hn1 : -67108864 ≤ n) (hn2 : n ≤ 67108863) (w : World) (hcs : TabsAny w) :
    Calls Tryz.prog 67 #[itA k ⟨#[]⟩ n x 0] w (NewLen w 1) := by
  have HS := Lib.hid (fun W => shape_num ⟨k, ⟨#[]⟩, n, x, 0⟩ h W)
  have HC := Lib.hid (fun W (hb : Below w.heap.size w W) => number_narrow k n x (by have := of_decide_eq_true h; omega) (by have := of_decide_eq_true h; omega) hn1 hn2 W (hcs.below hb))
  clear h hcs
  go_enter Tryz.func67, Tryz.ntmps67
  go_wp2_with fail
  refine (HS.out _).mono ?_
  rintro e w1 ⟨rfl, hb⟩
  have hb' : Below (w.heap.size + 1) (w.alloc (.cells #[.int .i64 k, .string ⟨#[]⟩, .int .i32 n, .bool x, .int .u32 0] 38)) w1 := hb.mono (by simp)
  have HBX := Lib.hid hb'
  have HB := Lib.hid (((Below.refl w.heap.size w).alloc (Nat.le_refl _) _).trans (hb.mono (by simp)))
  clear hb hb' HS
  go_wp2_with fail
  go_region_held3 (fun w' => w'.cell? ⟨w.heap.size, 0, none⟩ = some (.int .i64 k) ∧ w'.cell? ⟨w.heap.size, 1, none⟩ = some (.string ⟨#[]⟩) ∧ w'.cell? ⟨w.heap.size, 2, none⟩ = some (.int .i32 n) ∧ w'.cell? ⟨w.heap.size, 3, none⟩ = some (.bool x) ∧ w'.cell? ⟨w.heap.size, 4, none⟩ = some (.int .u32 0)) (first | exact it_box HBX.out.drew | go_keep | exact it_keep HBX.out hb2) (first | (go_at_call 193; refine (number_item k n x _).mono ?_; rintro e w2 ⟨rfl, hb2⟩))
  have HB2 := Lib.hid (HB.out.drew.trans (hb2.mono HB.out.size))
  clear hb2
  go_wp2_with fail
  refine (HC.out _ HB2.out).mono ?_
  rintro e w3 ⟨v, zs, rfl, hl, hz, hown, hb3⟩
  have HE := Lib.hid (show NewLen w 1 (.returned v) w3 from ⟨v, zs, rfl, hl, hz, own_base hown HB2.out.size, HB2.out.trans (hb3.mono HB2.out.size)⟩)
  clear hl hz hown hb3
  go_wp2_with fail
  go_ret
  exact HE.out

set_option maxHeartbeats 2000000 in
theorem cellsof_wide (k n : Int) (x : Bool) (h : numK k = true) (hn : n < -67108864 ∨ 67108863 < n) (w : World) (hcs : TabsAny w) :
    Calls Tryz.prog 67 #[itA k ⟨#[]⟩ n x 0] w (NewLen w 2) := by
  have HS := Lib.hid (fun W => shape_num ⟨k, ⟨#[]⟩, n, x, 0⟩ h W)
  have HC := Lib.hid (fun W (hb : Below w.heap.size w W) => (fun (_ : TabsAny W) => number_wide k n x hn W) (hcs.below hb))
  clear h hcs
  go_enter Tryz.func67, Tryz.ntmps67
  go_wp2_with fail
  refine (HS.out _).mono ?_
  rintro e w1 ⟨rfl, hb⟩
  have hb' : Below (w.heap.size + 1) (w.alloc (.cells #[.int .i64 k, .string ⟨#[]⟩, .int .i32 n, .bool x, .int .u32 0] 38)) w1 := hb.mono (by simp)
  have HBX := Lib.hid hb'
  have HB := Lib.hid (((Below.refl w.heap.size w).alloc (Nat.le_refl _) _).trans (hb.mono (by simp)))
  clear hb hb' HS
  go_wp2_with fail
  go_region_held3 (fun w' => w'.cell? ⟨w.heap.size, 0, none⟩ = some (.int .i64 k) ∧ w'.cell? ⟨w.heap.size, 1, none⟩ = some (.string ⟨#[]⟩) ∧ w'.cell? ⟨w.heap.size, 2, none⟩ = some (.int .i32 n) ∧ w'.cell? ⟨w.heap.size, 3, none⟩ = some (.bool x) ∧ w'.cell? ⟨w.heap.size, 4, none⟩ = some (.int .u32 0)) (first | exact it_box HBX.out.drew | go_keep | exact it_keep HBX.out hb2) (first | (go_at_call 193; refine (number_item k n x _).mono ?_; rintro e w2 ⟨rfl, hb2⟩))
  have HB2 := Lib.hid (HB.out.drew.trans (hb2.mono HB.out.size))
  clear hb2
  go_wp2_with fail
  refine (HC.out _ HB2.out).mono ?_
  rintro e w3 ⟨v, zs, rfl, hl, hz, hown, hb3⟩
  have HE := Lib.hid (show NewLen w 2 (.returned v) w3 from ⟨v, zs, rfl, hl, hz, own_base hown HB2.out.size, HB2.out.trans (hb3.mono HB2.out.size)⟩)
  clear hl hz hown hb3
  go_wp2_with fail
  go_ret
  exact HE.out

set_option maxHeartbeats 2000000 in
theorem cellsof_num_no (k : Int) (nm : ByteArray) (n : Int) (x : Bool) (r : Nat) (h : numK k = true) (hne : (⟨k, ⟨#[]⟩, n, x, 0⟩ : It) ≠ ⟨k, nm, n, x, r⟩) (w : World) :
    Calls Tryz.prog 67 #[itA k nm n x (r : Int)] w (NewLen w 0) := by
  have HS := Lib.hid (fun W => shape_num ⟨k, nm, n, x, r⟩ h W)
  have hq : ∀ W : World, (binOp .neq 38 (itA k ⟨#[]⟩ n x 0) (itA k nm n x (r : Int))).run Tryz.prog W = .ok (.bool true) W := fun W => by
    have h := item_neq W (⟨k, ⟨#[]⟩, n, x, 0⟩) ⟨k, nm, n, x, r⟩
    rw [decide_eq_false hne] at h
    exact h
  clear hne
  clear h
  go_enter Tryz.func67, Tryz.ntmps67
  go_wp2_with fail
  refine (HS.out _).mono ?_
  rintro e w1 ⟨rfl, hb⟩
  have hb' : Below (w.heap.size + 1) (w.alloc (.cells #[.int .i64 k, .string nm, .int .i32 n, .bool x, .int .u32 (r : Int)] 38)) w1 := hb.mono (by simp)
  have HBX := Lib.hid hb'
  have HB := Lib.hid (((Below.refl w.heap.size w).alloc (Nat.le_refl _) _).trans (hb.mono (by simp)))
  clear hb hb' HS
  go_wp2_with fail
  go_region_held3 (fun w' => w'.cell? ⟨w.heap.size, 0, none⟩ = some (.int .i64 k) ∧ w'.cell? ⟨w.heap.size, 1, none⟩ = some (.string nm) ∧ w'.cell? ⟨w.heap.size, 2, none⟩ = some (.int .i32 n) ∧ w'.cell? ⟨w.heap.size, 3, none⟩ = some (.bool x) ∧ w'.cell? ⟨w.heap.size, 4, none⟩ = some (.int .u32 (r : Int))) (first | exact it_box HBX.out.drew | go_keep | exact it_keep HBX.out hb2) (first | (go_at_call 193; refine (number_item k n x _).mono ?_; rintro e w2 ⟨rfl, hb2⟩))
  have HB2 := Lib.hid (HB.out.drew.trans (hb2.mono HB.out.size))
  clear hb2
  go_wp2_with fail
  go_ret
  exact new_none HB2.out

end Go.Proofs.YtogdbfjagnbllaaGreatDoor

namespace Go.Proofs.YtogdbfjagnbllaaGreatDoor
open Go.RowKit Go

set_option maxHeartbeats 2000000 in
theorem cellsof_var_yes (k : Int) (nm : ByteArray) (n : Int) (h : k = 9) (hs : nm.size ≤ 4611686018427387904) (m : Nat) (hm : (if (packs nm.data.toList).length = 1 then 2 else 0) = m) (w : World) (hcs : TabsAny w) :
    Calls Tryz.prog 67 #[itA k nm n false 0] w (NewLen w m) := by
  have HS := Lib.hid (fun W => shape_var ⟨k, nm, n, false, 0⟩ h W)
  have HC := Lib.hid (fun W (hb : Below w.heap.size w W) => hm ▸ variable_cells k n nm (by omega) (by omega) hs W (hcs.below hb))
  clear h hcs hm
  go_enter Tryz.func67, Tryz.ntmps67
  go_wp2_with fail
  refine (HS.out _).mono ?_
  rintro e w1 ⟨rfl, hb⟩
  have hb' : Below (w.heap.size + 1) (w.alloc (.cells #[.int .i64 k, .string nm, .int .i32 n, .bool false, .int .u32 0] 38)) w1 := hb.mono (by simp)
  have HBX := Lib.hid hb'
  have HB := Lib.hid (((Below.refl w.heap.size w).alloc (Nat.le_refl _) _).trans (hb.mono (by simp)))
  clear hb hb' HS
  go_wp2_with fail
  go_region_held3 (fun w' => w'.cell? ⟨w.heap.size, 0, none⟩ = some (.int .i64 k) ∧ w'.cell? ⟨w.heap.size, 1, none⟩ = some (.string nm) ∧ w'.cell? ⟨w.heap.size, 2, none⟩ = some (.int .i32 n) ∧ w'.cell? ⟨w.heap.size, 3, none⟩ = some (.bool false) ∧ w'.cell? ⟨w.heap.size, 4, none⟩ = some (.int .u32 0)) (first | exact it_box HBX.out.drew | go_keep | exact it_keep HBX.out hb2) (first | (go_at_call 196; refine (variable_item k n nm _).mono ?_; rintro e w2 ⟨rfl, hb2⟩))
  have HB2 := Lib.hid (HB.out.drew.trans (hb2.mono HB.out.size))
  clear hb2
  go_wp2_with fail
  refine (HC.out _ HB2.out).mono ?_
  rintro e w3 ⟨v, zs, rfl, hl, hz, hown, hb3⟩
  have HE := Lib.hid (show NewLen w m (.returned v) w3 from ⟨v, zs, rfl, hl, hz, own_base hown HB2.out.size, HB2.out.trans (hb3.mono HB2.out.size)⟩)
  clear hl hz hown hb3
  go_wp2_with fail
  go_ret
  exact HE.out

set_option maxHeartbeats 2000000 in
theorem cellsof_var_no (k : Int) (nm : ByteArray) (n : Int) (x : Bool) (r : Nat) (h : k = 9) (hne : (⟨k, nm, n, false, 0⟩ : It) ≠ ⟨k, nm, n, x, r⟩) (w : World) :
    Calls Tryz.prog 67 #[itA k nm n x (r : Int)] w (NewLen w 0) := by
  have HS := Lib.hid (fun W => shape_var ⟨k, nm, n, x, r⟩ h W)
  have hq : ∀ W : World, (binOp .neq 38 (itA k nm n false 0) (itA k nm n x (r : Int))).run Tryz.prog W = .ok (.bool true) W := fun W => by
    have h := item_neq W (⟨k, nm, n, false, 0⟩) ⟨k, nm, n, x, r⟩
    rw [decide_eq_false hne] at h
    exact h
  clear hne
  clear h
  go_enter Tryz.func67, Tryz.ntmps67
  go_wp2_with fail
  refine (HS.out _).mono ?_
  rintro e w1 ⟨rfl, hb⟩
  have hb' : Below (w.heap.size + 1) (w.alloc (.cells #[.int .i64 k, .string nm, .int .i32 n, .bool x, .int .u32 (r : Int)] 38)) w1 := hb.mono (by simp)
  have HBX := Lib.hid hb'
  have HB := Lib.hid (((Below.refl w.heap.size w).alloc (Nat.le_refl _) _).trans (hb.mono (by simp)))
  clear hb hb' HS
  go_wp2_with fail
  go_region_held3 (fun w' => w'.cell? ⟨w.heap.size, 0, none⟩ = some (.int .i64 k) ∧ w'.cell? ⟨w.heap.size, 1, none⟩ = some (.string nm) ∧ w'.cell? ⟨w.heap.size, 2, none⟩ = some (.int .i32 n) ∧ w'.cell? ⟨w.heap.size, 3, none⟩ = some (.bool x) ∧ w'.cell? ⟨w.heap.size, 4, none⟩ = some (.int .u32 (r : Int))) (first | exact it_box HBX.out.drew | go_keep | exact it_keep HBX.out hb2) (first | (go_at_call 196; refine (variable_item k n nm _).mono ?_; rintro e w2 ⟨rfl, hb2⟩))
  have HB2 := Lib.hid (HB.out.drew.trans (hb2.mono HB.out.size))
  clear hb2
  go_wp2_with fail
  go_ret
  exact new_none HB2.out

end Go.Proofs.YtogdbfjagnbllaaGreatDoor

namespace Go.Proofs.YtogdbfjagnbllaaGreatDoor
open Go.RowKit Go

set_option maxHeartbeats 2000000 in
theorem cellsof_raw_yes (r : Nat) (h : r < 4294967296) (w : World) (hcs : TabsAny w) :
    Calls Tryz.prog 67 #[itA 0 ⟨#[]⟩ 0 false (r : Int)] w (NewLen w 1) := by
  have HS := Lib.hid (fun W => shape_raw ⟨0, ⟨#[]⟩, 0, false, r⟩ (by simp) W)
  have HC := Lib.hid (fun W (hb : Below w.heap.size w W) => (fun (_ : TabsAny W) => raw_cells 0 r h W) (hcs.below hb))
  clear h hcs
  go_enter Tryz.func67, Tryz.ntmps67
  go_wp2_with fail
  refine (HS.out _).mono ?_
  rintro e w1 ⟨rfl, hb⟩
  have hb' : Below (w.heap.size + 1) (w.alloc (.cells #[.int .i64 0, .string ⟨#[]⟩, .int .i32 0, .bool false, .int .u32 (r : Int)] 38)) w1 := hb.mono (by simp)
  have HBX := Lib.hid hb'
  have HB := Lib.hid (((Below.refl w.heap.size w).alloc (Nat.le_refl _) _).trans (hb.mono (by simp)))
  clear hb hb' HS
  go_wp2_with fail
  go_region_held3 (fun w' => w'.cell? ⟨w.heap.size, 0, none⟩ = some (.int .i64 0) ∧ w'.cell? ⟨w.heap.size, 1, none⟩ = some (.string ⟨#[]⟩) ∧ w'.cell? ⟨w.heap.size, 2, none⟩ = some (.int .i32 0) ∧ w'.cell? ⟨w.heap.size, 3, none⟩ = some (.bool false) ∧ w'.cell? ⟨w.heap.size, 4, none⟩ = some (.int .u32 (r : Int))) (first | exact it_box HBX.out.drew | go_keep | exact it_keep HBX.out hb2) (first | (go_at_call 198; refine (raw_item 0 (r : Int) _).mono ?_; rintro e w2 ⟨rfl, hb2⟩))
  have HB2 := Lib.hid (HB.out.drew.trans (hb2.mono HB.out.size))
  clear hb2
  go_wp2_with fail
  refine (HC.out _ HB2.out).mono ?_
  rintro e w3 ⟨v, zs, rfl, hl, hz, hown, hb3⟩
  have HE := Lib.hid (show NewLen w 1 (.returned v) w3 from ⟨v, zs, rfl, hl, hz, own_base hown HB2.out.size, HB2.out.trans (hb3.mono HB2.out.size)⟩)
  clear hl hz hown hb3
  go_wp2_with fail
  go_ret
  exact HE.out

set_option maxHeartbeats 2000000 in
theorem cellsof_raw_no (k : Int) (nm : ByteArray) (n : Int) (x : Bool) (r : Nat) (h : ¬ (1 ≤ k ∧ k ≤ 9)) (hne : (⟨0, ⟨#[]⟩, 0, false, r⟩ : It) ≠ ⟨k, nm, n, x, r⟩) (w : World) :
    Calls Tryz.prog 67 #[itA k nm n x (r : Int)] w (NewLen w 0) := by
  have HS := Lib.hid (fun W => shape_raw ⟨k, nm, n, x, r⟩ h W)
  have hq : ∀ W : World, (binOp .neq 38 (itA 0 ⟨#[]⟩ 0 false (r : Int)) (itA k nm n x (r : Int))).run Tryz.prog W = .ok (.bool true) W := fun W => by
    have h := item_neq W (⟨0, ⟨#[]⟩, 0, false, r⟩) ⟨k, nm, n, x, r⟩
    rw [decide_eq_false hne] at h
    exact h
  clear hne
  clear h
  go_enter Tryz.func67, Tryz.ntmps67
  go_wp2_with fail
  refine (HS.out _).mono ?_
  rintro e w1 ⟨rfl, hb⟩
  have hb' : Below (w.heap.size + 1) (w.alloc (.cells #[.int .i64 k, .string nm, .int .i32 n, .bool x, .int .u32 (r : Int)] 38)) w1 := hb.mono (by simp)
  have HBX := Lib.hid hb'
  have HB := Lib.hid (((Below.refl w.heap.size w).alloc (Nat.le_refl _) _).trans (hb.mono (by simp)))
  clear hb hb' HS
  go_wp2_with fail
  go_region_held3 (fun w' => w'.cell? ⟨w.heap.size, 0, none⟩ = some (.int .i64 k) ∧ w'.cell? ⟨w.heap.size, 1, none⟩ = some (.string nm) ∧ w'.cell? ⟨w.heap.size, 2, none⟩ = some (.int .i32 n) ∧ w'.cell? ⟨w.heap.size, 3, none⟩ = some (.bool x) ∧ w'.cell? ⟨w.heap.size, 4, none⟩ = some (.int .u32 (r : Int))) (first | exact it_box HBX.out.drew | go_keep | exact it_keep HBX.out hb2) (first | (go_at_call 198; refine (raw_item 0 (r : Int) _).mono ?_; rintro e w2 ⟨rfl, hb2⟩))
  have HB2 := Lib.hid (HB.out.drew.trans (hb2.mono HB.out.size))
  clear hb2
  go_wp2_with fail
  go_ret
  exact new_none HB2.out

end Go.Proofs.YtogdbfjagnbllaaGreatDoor

namespace Go.Proofs.YtogdbfjagnbllaaGreatDoor
open Go.RowKit Go

theorem varCells_count (l : List Nat) (n : Int) : (varCells l n).length = if l.length = 1 then 2 else 0 := by
  match l with
  | [] => rfl
  | [f] => rfl
  | _ :: _ :: _ => simp [varCells]
theorem impl_cellsof (it : It) (hin : ItIn it) (w : World) (hcs : TabsAny w) : Calls Tryz.prog 67 #[itVal it] w (NewLen w (cellsOf it).length) := by
  have hin2 := hin
  obtain ⟨k, nm, n, x, r⟩ := it
  obtain ⟨-, -, -, -, hr, hs⟩ := hin2
  by_cases hw : 1 ≤ k ∧ k ≤ 6
  · rw [cells_words (it := ⟨k, nm, n, x, r⟩) hw]
    have hw2 : wordK k = true := decide_eq_true hw
    split
    · rename_i h
      obtain ⟨h1, h2, h3⟩ : n = 0 ∧ x = false ∧ r = 0 := h
      subst h1 h2 h3
      rw [wordCells_len]
      exact cellsof_word_yes k nm hw2 hs w hcs
    · rename_i h
      exact cellsof_word_no k nm n x r hw2 (fun e => h (by injection e with _ _ e3 e4 e5; exact ⟨e3.symm, e4.symm, e5.symm⟩)) w
  · by_cases hn : k = 7 ∨ k = 8
    · rw [cells_nums (it := ⟨k, nm, n, x, r⟩) hn]
      have hn2 : numK k = true := decide_eq_true (by omega)
      split
      · rename_i h
        obtain ⟨h1, h2⟩ : nm = noText ∧ r = 0 := h
        subst h1 h2
        by_cases hwd : n < -67108864 ∨ 67108863 < n
        · have e : (numCells n x (shortOf k) (longOf k)).length = 2 := by unfold numCells; rw [if_pos (show wideN n = true from decide_eq_true hwd)]; rfl
          show Calls _ _ _ _ (NewLen w (numCells n x (shortOf k) (longOf k)).length)
          rw [e]
          exact cellsof_wide k n x hn2 hwd w hcs
        · have e : (numCells n x (shortOf k) (longOf k)).length = 1 := by unfold numCells; rw [if_neg (by rw [show wideN n = false from decide_eq_false hwd]; decide)]; rfl
          show Calls _ _ _ _ (NewLen w (numCells n x (shortOf k) (longOf k)).length)
          rw [e]
          exact cellsof_narrow k n x hn2 (by omega) (by omega) w hcs
      · rename_i h
        exact cellsof_num_no k nm n x r hn2 (fun e => h (by injection e with _ e2 _ _ e5; exact ⟨e2.symm, e5.symm⟩)) w
    · by_cases h9 : k = 9
      · have e : cellsOf ⟨k, nm, n, x, r⟩ = if x = false ∧ r = 0 then varCells (packs nm.data.toList) n else [] := by
          unfold cellsOf
          rw [if_neg (by show ¬ k = 0; omega), if_neg (by show ¬ (k = 7 ∨ k = 8); omega), if_pos h9]
        rw [e]
        split
        · rename_i h
          obtain ⟨h1, h2⟩ := h
          subst h1 h2
          exact cellsof_var_yes k nm n h9 hs _ (varCells_count _ _).symm w hcs
        · rename_i h
          exact cellsof_var_no k nm n x r h9 (fun e => h (by injection e with _ _ _ e4 e5; exact ⟨e4.symm, e5.symm⟩)) w
      · by_cases h0 : k = 0 ∧ nm = noText ∧ n = 0 ∧ x = false
        · obtain ⟨h1, h2, h3, h4⟩ := h0
          subst h1 h2 h3 h4
          have e : (cellsOf ⟨0, noText, 0, false, r⟩).length = 1 := rfl
          rw [e]
          exact cellsof_raw_yes r hr w hcs
        · have e : cellsOf ⟨k, nm, n, x, r⟩ = [] := by
            unfold cellsOf
            by_cases hk : k = 0
            · rw [if_pos hk, if_neg (fun h => h0 ⟨hk, h.1, h.2.1, h.2.2⟩)]
            · rw [if_neg hk, if_neg hn, if_neg h9, if_neg hw]
          rw [e]
          exact cellsof_raw_no k nm n x r (by omega) (fun e => h0 (by injection e with e1 e2 e3 e4 _; exact ⟨e1.symm, e2.symm, e3.symm, e4.symm⟩)) w
theorem impl_itemok (it : It) (hin : ItIn it) (w : World) (hcs : TabsAny w) : Calls Tryz.prog 52 #[itVal it] w fun e w' => e = .returned (.bool (decide (cellsOf it ≠ []))) ∧ Below w.heap.size w w' := by
  have HC := Lib.hid (fun W (hb : Below w.heap.size w W) => impl_cellsof it hin W (hcs.below hb))
  obtain ⟨k, nm, n, x, r⟩ := it
  have hd : decide (cellsOf ⟨k, nm, n, x, r⟩ ≠ []) = decide (0 < (cellsOf ⟨k, nm, n, x, r⟩).length) := decide_eq_decide.2 List.length_pos_iff.symm
  rw [hd]
  obtain ⟨m, hm⟩ : ∃ m, (cellsOf ⟨k, nm, n, x, r⟩).length = m := ⟨_, rfl⟩
  rw [hm] at HC ⊢
  clear hm hd hcs hin
  by_cases h0 : 0 < m
  · have e : decide (0 < m) = true := decide_eq_true h0
    rw [e]
    clear e
    go_enter Tryz.func52, Tryz.ntmps52
    go_wp2_with fail
    refine (HC.out _ ((Below.refl _ _).alloc (Nat.le_refl _) _)).mono ?_
    rintro e w1 ⟨v, zs, rfl, hl, -, hown, hb⟩
    obtain ⟨A, cap, rfl⟩ := own_slice hown
    have HB := Lib.hid (((Below.refl w.heap.size w).alloc (Nat.le_refl _) _).trans (hb.mono (by simp)))
    subst hl
    clear hown hb HC
    go_wp2_with fail
    go_ret
    exact ⟨rfl, HB.out⟩
  · have e : decide (0 < m) = false := decide_eq_false h0
    rw [e]
    obtain rfl : m = 0 := by omega
    clear e h0
    go_enter Tryz.func52, Tryz.ntmps52
    go_wp2_with fail
    refine (HC.out _ ((Below.refl _ _).alloc (Nat.le_refl _) _)).mono ?_
    rintro e w1 ⟨v, zs, rfl, hl, -, hown, hb⟩
    obtain ⟨A, cap, rfl⟩ := own_slice hown
    rw [hl]
    have HB := Lib.hid (((Below.refl w.heap.size w).alloc (Nat.le_refl _) _).trans (hb.mono (by simp)))
    clear hown hb HC hl
    go_wp2_with fail
    go_ret
    exact ⟨rfl, HB.out⟩
end Go.Proofs.YtogdbfjagnbllaaGreatDoor

namespace Go.Proofs.YtogdbfjagnbllaaGreatDoor
open Go.RowKit Go

theorem clone_any (s : ByteArray) (hs : s.size ≤ 281474976710656) (w : World) : Calls Tryz.prog 51 #[.string s] w fun e w' => e = .returned (.string s) ∧ Below w.heap.size w w' := by
  have HC := Lib.hid (Tryz.stringslite_Clone s w hs)
  go_enter Tryz.func51, Tryz.ntmps51
  go_wp2_with fail
  refine HC.out.mono ?_
  rintro e w1 ⟨rfl, hb⟩
  have HB := Lib.hid hb
  clear hb HC
  go_wp2_with fail
  go_ret
  exact ⟨rfl, HB.out⟩
end Go.Proofs.YtogdbfjagnbllaaGreatDoor

namespace Go.Proofs.YtogdbfjagnbllaaGreatDoor
open Go.RowKit Go

/-- An item is stored. -/
def putAll (w : World) (g : Nat) (k : Int) (nm : ByteArray) (n : Int) (hx : Bool) (r : Int) : World := ((((w.setCell ⟨g, 0, none⟩ (.int .i64 k)).setCell ⟨g, 1, none⟩ (.string nm)).setCell ⟨g, 2, none⟩ (.int .i32 n)).setCell ⟨g, 3, none⟩ (.bool hx)).setCell ⟨g, 4, none⟩ (.int .u32 r)
theorem putAll_below {w w1 : World} {g : Nat} (h : Below w.heap.size w w1) (hg : w.heap.size ≤ g) (k : Int) (nm : ByteArray) (n : Int) (hx : Bool) (r : Int) : Below w.heap.size w (putAll w1 g k nm n hx r) :=
  ((((h.setCell hg _).setCell hg _).setCell hg _).setCell hg _).setCell hg _
theorem putAll_blk {w : World} {g : Nat} {t : TypeId} {k0 : Int} {nm0 : ByteArray} {n0 : Int} {hx0 : Bool} {r0 : Int} (h : Blk w g t (itC k0 nm0 n0 hx0 r0)) (k : Int) (nm : ByteArray) (n : Int) (hx : Bool) (r : Int) : Blk (putAll w g k nm n hx r) g t (itC k nm n hx r) := item_put h k nm n hx r
/-- What Recolor answers. -/
def RecEnd (it : It) (k : Int) (w : World) (e : Ending) (w' : World) : Prop := e = .returned (.tuple #[itVal (recol it k), .bool (recolOk it k)]) ∧ Below w.heap.size w w'
theorem rec_no {it : It} {k : Int} {w w' : World} (h : recolOk it k = false) (hb : Below w.heap.size w w') : RecEnd it k w (.returned (.tuple #[itA 0 ⟨#[]⟩ 0 false 0, .bool false])) w' := by
  refine ⟨?_, hb⟩
  have e : recol it k = zeroIt := by unfold recol; rw [if_neg (by rw [h]; decide)]
  rw [e, h]
  rfl
theorem rec_yes {k0 : Int} {nm : ByteArray} {n : Int} {x : Bool} {r : Nat} {k : Int} {w w' : World} (h : recolOk ⟨k0, nm, n, x, r⟩ k = true) (hb : Below w.heap.size w w') : RecEnd ⟨k0, nm, n, x, r⟩ k w (.returned (.tuple #[itA k nm n x (r : Int), .bool true])) w' := by
  refine ⟨?_, hb⟩
  have e : recol ⟨k0, nm, n, x, r⟩ k = ⟨k, nm, n, x, r⟩ := by unfold recol; rw [if_pos h]
  rw [e, h]

end Go.Proofs.YtogdbfjagnbllaaGreatDoor

namespace Go.Proofs.YtogdbfjagnbllaaGreatDoor
open Go.RowKit Go

theorem spec_pack_len (s : ByteArray) (hs : s.size ≤ 4611686018427387904) (w : World) : Calls Tryz.prog 111 #[.string s] w (NewLen w (packs s.data.toList).length) :=
  (spec_pack s hs w).mono fun _ _ h => NewLen.of_new (fun z hz => Nat.lt_trans (packs_small _ z hz) (by decide)) h

set_option maxHeartbeats 2000000 in
theorem spec_word (t : Nat) (nm : ByteArray) (hs : nm.size ≤ 4611686018427387904) (w : World) :
    Calls Tryz.prog 85 #[.int .u32 t, .string nm] w (NewLen w (packs nm.data.toList).length) := by
  have HP := Lib.hid (spec_pack_len nm hs w)
  have hm24 := (packs_len nm.data.toList).2
  obtain ⟨m, hm⟩ : ∃ m, (packs nm.data.toList).length = m := ⟨_, rfl⟩
  rw [hm] at HP hm24 ⊢
  clear hm hs
  go_enter Tryz.func85, Tryz.ntmps85
  go_wp2_with fail
  refine HP.out.mono ?_
  rintro e w2 ⟨v, zs, rfl, hl, hz, hown, hb2⟩
  have HB2 := Lib.hid hb2
  have HO := Lib.hid hown
  have HZ := Lib.hid hz
  subst hl
  rcases hown.2 with ⟨rfl, h0⟩ | ⟨g, cap, cur, rfl, -⟩
  · obtain rfl : zs = [] := List.eq_nil_of_length_eq_zero h0
    clear hb2 hown hz HP h0
    go_wp2_with fail
    go_loopw [6] (fun vi wr => vi = .int .i64 0 ∧ wr = w2) (fun _ _ => 0)
    case atStart => exact ⟨rfl, rfl⟩
    case round =>
      obtain ⟨rfl, rfl⟩ := hrel
      go_wp2_with fail
      go_ret
      exact ⟨_, [], rfl, rfl, fun _ hz => absurd hz List.not_mem_nil, World.ownsRow_nil _ _ _ _, HB2.out⟩
  · clear hb2 hown hz HP
    go_wp2_with fail
    go_loopw [6] (fun vi wr => ∃ (i : Nat) (ys : List Nat), vi = .int .i64 i ∧ i ≤ zs.length ∧ Hid (ys.length = zs.length ∧ ∀ z ∈ ys, z < 4294967296) ∧ wr.ownsRow w.heap.size 36 1 (.slice (some ⟨g, 0, none⟩) zs.length cap) zs.length (ys.map u32v) ∧ Below w.heap.size w wr) (fun vi _ => zs.length - (intOf vi).toNat)
    case atStart => exact ⟨0, zs, rfl, by omega, Lib.hid ⟨rfl, HZ.out⟩, HO.out, HB2.out⟩
    case round =>
      obtain ⟨i, ys, rfl, hi, HY, hO, hB⟩ := hrel
      by_cases hp : i < zs.length
      · have hpy : i < ys.length := by rw [HY.out.1]; exact hp
        have hzi := HY.out.2 _ (List.getElem_mem hpy)
        have hd : wr.cell? ⟨g, i, none⟩ = some (u32v ys[i]) := by
          rw [hO.cellAt i (by omega)]
          simp [hpy]
        obtain ⟨z, hzz⟩ : ∃ z, ys[i] = z := ⟨_, rfl⟩
        rw [hzz] at hd hzi
        change wr.cell? ⟨g, i, none⟩ = some (.int .u32 (z : Int)) at hd
        obtain ⟨y, hy, hyl⟩ := u32_mod ((z : Int) * 16)
        have HYL := Lib.hid hyl
        have hs := hO.stored i (.int .u32 (y : Int))
        have hf := hO.frozenAt i
        have i2 : (i : Int) < (zs.length : Int) := by omega
        have HGB := Lib.hid (own_lt hO g rfl)
        have hO1 := hs.1
        rw [show Value.int .u32 (y : Int) = u32v y from rfl, map_setU] at hO1
        have HB := Lib.hid (hB.grown hs.2 hB.size (fun k hk => by obtain rfl := Option.some.inj hk; exact HGB.out))
        have HO1 := Lib.hid hO1
        by_cases h0 : i = 0
        · subst h0
          have hd2 : (wr.setCell ⟨g, 0, none⟩ (.int .u32 (y : Int))).cell? ⟨g, 0, none⟩ = some (.int .u32 (y : Int)) := World.cell?_setCell_same _ _ _ hd
          have hf2 := hO1.frozenAt 0
          obtain ⟨y2, hy2, hyl2⟩ := u32_mod ((y : Int) + (t : Int))
          have hs2 := hO1.stored 0 (.int .u32 (y2 : Int))
          have hO2 := hs2.1
          rw [show Value.int .u32 (y2 : Int) = u32v y2 from rfl, map_setU] at hO2
          have HO2 := Lib.hid hO2
          have HB3 := Lib.hid (HB.out.grown hs2.2 HB.out.size (fun k hk => by obtain rfl := Option.some.inj hk; exact HGB.out))
          have HY2 := Lib.hid hyl2
          clear hO hB hzz hpy HO HB2 HZ hs hs2 hO1 hO2 hyl hyl2
          go_wp2_with fail
          go_roundw
          case rel => exact ⟨1, (ys.set 0 y).set 0 y2, rfl, by omega, Lib.hid ⟨by rw [List.length_set, List.length_set]; exact HY.out.1, small_set (small_set HY.out.2 0 HYL.out) 0 HY2.out⟩, HO2.out, HB3.out⟩
          case measure => simp [intOf]; omega
        · have hne : ((i : Int) == 0) = false := by simp; omega
          clear hO hB hzz hpy HO HB2 HZ hs hO1 hyl h0
          go_wp2_with fail
          go_roundw
          case rel => exact ⟨i + 1, ys.set i y, by go_num, by omega, Lib.hid ⟨by rw [List.length_set]; exact HY.out.1, small_set HY.out.2 i HYL.out⟩, HO1.out, HB.out⟩
          case measure => simp [intOf]; omega
      · obtain rfl : i = zs.length := by omega
        go_wp2_with fail
        go_ret
        exact ⟨_, ys, rfl, HY.out.1, HY.out.2, by rw [HY.out.1]; exact hO, hB⟩
end Go.Proofs.YtogdbfjagnbllaaGreatDoor

namespace Go.Proofs.YtogdbfjagnbllaaGreatDoor
open Go.RowKit Go

set_option maxHeartbeats 1000000 in
theorem spec_narrow (n : Int) (x : Bool) (s l : Nat) (h1 : -67108864 ≤ n) (h2 : n ≤ 67108863) (w : World) : Calls Tryz.prog 84 #[.int .i32 n, .bool x, .int .u32 s, .int .u32 l] w (NewLen w 1) := by
  cases x with
  | true =>
    go_enter Tryz.func84, Tryz.ntmps84
    go_wp2_with fail
    go_ret
    exact new_one rfl (u32_mod _) (Below.refl _ _)
  | false =>
    go_enter Tryz.func84, Tryz.ntmps84
    go_wp2_with fail
    go_ret
    exact new_one rfl (u32_mod _) (Below.refl _ _)
set_option maxHeartbeats 1000000 in
theorem spec_wide (n : Int) (x : Bool) (s l : Nat) (h : n < -67108864 ∨ 67108863 < n) (w : World) : Calls Tryz.prog 84 #[.int .i32 n, .bool x, .int .u32 s, .int .u32 l] w (NewLen w 2) := by
  rcases h with h | h
  · cases x with
    | true =>
      go_enter Tryz.func84, Tryz.ntmps84
      go_wp2_with fail
      go_ret
      exact new_two rfl (u32_mod _) (u32_some _) (Below.refl _ _)
    | false =>
      go_enter Tryz.func84, Tryz.ntmps84
      go_wp2_with fail
      go_ret
      exact new_two rfl (u32_mod _) (u32_some _) (Below.refl _ _)
  · have h' : -67108864 ≤ n := by omega
    cases x with
    | true =>
      go_enter Tryz.func84, Tryz.ntmps84
      go_wp2_with fail
      go_ret
      exact new_two rfl (u32_mod _) (u32_some _) (Below.refl _ _)
    | false =>
      go_enter Tryz.func84, Tryz.ntmps84
      go_wp2_with fail
      go_ret
      exact new_two rfl (u32_mod _) (u32_some _) (Below.refl _ _)
set_option maxHeartbeats 1000000 in
theorem spec_tag (k : Int) (w : World) : Calls Tryz.prog 86 #[.int .i64 k] w fun e w' => e = .returned (.int .u32 (tagW k : Int)) ∧ w = w' := by
  by_cases h1 : k = 1
  · subst h1
    go_enter Tryz.func86, Tryz.ntmps86
    go_wp2_with fail
    go_ret
    exact ⟨rfl, rfl⟩
  by_cases h2 : k = 2
  · subst h2
    go_enter Tryz.func86, Tryz.ntmps86
    go_wp2_with fail
    go_ret
    exact ⟨rfl, rfl⟩
  by_cases h3 : k = 3
  · subst h3
    go_enter Tryz.func86, Tryz.ntmps86
    go_wp2_with fail
    go_ret
    exact ⟨rfl, rfl⟩
  by_cases h4 : k = 4
  · subst h4
    go_enter Tryz.func86, Tryz.ntmps86
    go_wp2_with fail
    go_ret
    exact ⟨rfl, rfl⟩
  by_cases h5 : k = 5
  · subst h5
    go_enter Tryz.func86, Tryz.ntmps86
    go_wp2_with fail
    go_ret
    exact ⟨rfl, rfl⟩
  by_cases h6 : k = 6
  · subst h6
    go_enter Tryz.func86, Tryz.ntmps86
    go_wp2_with fail
    go_ret
    exact ⟨rfl, rfl⟩
  have e : tagW k = 0 := by unfold tagW; rw [if_neg h1, if_neg h2, if_neg h3, if_neg h4, if_neg h5, if_neg h6]
  have b1 : (k == 1) = false := by simpa using h1
  have b2 : (k == 2) = false := by simpa using h2
  have b3 : (k == 3) = false := by simpa using h3
  have b4 : (k == 4) = false := by simpa using h4
  have b5 : (k == 5) = false := by simpa using h5
  have b6 : (k == 6) = false := by simpa using h6
  rw [e]
  clear e h1 h2 h3 h4 h5 h6
  go_enter Tryz.func86, Tryz.ntmps86
  go_wp2_with fail
  go_ret
  exact ⟨rfl, rfl⟩
end Go.Proofs.YtogdbfjagnbllaaGreatDoor

namespace Go.Proofs.YtogdbfjagnbllaaGreatDoor
open Go.RowKit Go

set_option maxHeartbeats 1000000 in
theorem sc_raw_NVVE (n : Int) (hn : (n == 0) = false) (x : Bool) (r : Nat) (w : World) : Calls Tryz.prog 57 #[itA 0 ⟨#[]⟩ n x (r : Int)] w (NewLen w 0) := by
  go_enter Tryz.func57, Tryz.ntmps57
  go_wp2_with fail
  go_ret
  exact new_emp (by simp) (by go_grown)

set_option maxHeartbeats 1000000 in
theorem sc_raw_NVVN (nm : ByteArray) (hnm : nm.toList.isEmpty = false) (n : Int) (hn : (n == 0) = false) (x : Bool) (r : Nat) (w : World) : Calls Tryz.prog 57 #[itA 0 nm n x (r : Int)] w (NewLen w 0) := by
  go_enter Tryz.func57, Tryz.ntmps57
  go_wp2_with fail
  go_ret
  exact new_emp (by simp) (by go_grown)

set_option maxHeartbeats 1000000 in
theorem sc_raw_ZTVE (r : Nat) (w : World) : Calls Tryz.prog 57 #[itA 0 ⟨#[]⟩ 0 true (r : Int)] w (NewLen w 0) := by
  go_enter Tryz.func57, Tryz.ntmps57
  go_wp2_with fail
  go_ret
  exact new_emp (by simp) (by go_grown)

set_option maxHeartbeats 1000000 in
theorem sc_raw_ZTVN (nm : ByteArray) (hnm : nm.toList.isEmpty = false) (r : Nat) (w : World) : Calls Tryz.prog 57 #[itA 0 nm 0 true (r : Int)] w (NewLen w 0) := by
  go_enter Tryz.func57, Tryz.ntmps57
  go_wp2_with fail
  go_ret
  exact new_emp (by simp) (by go_grown)

set_option maxHeartbeats 1000000 in
theorem sc_raw_ZFNE (r : Nat) (hr : ((r : Int) == 0) = false) (hr2 : r < 4294967296) (w : World) : Calls Tryz.prog 57 #[itA 0 ⟨#[]⟩ 0 false (r : Int)] w (NewLen w 1) := by
  have HR := Lib.hid hr2
  clear hr2
  go_enter Tryz.func57, Tryz.ntmps57
  go_wp2_with fail
  go_ret
  exact new_one (by simp) ⟨r, rfl, HR.out⟩ (by go_grown)

set_option maxHeartbeats 1000000 in
theorem sc_raw_ZFNN (nm : ByteArray) (hnm : nm.toList.isEmpty = false) (r : Nat) (hr : ((r : Int) == 0) = false) (w : World) : Calls Tryz.prog 57 #[itA 0 nm 0 false (r : Int)] w (NewLen w 0) := by
  go_enter Tryz.func57, Tryz.ntmps57
  go_wp2_with fail
  go_ret
  exact new_emp (by simp) (by go_grown)

set_option maxHeartbeats 1000000 in
theorem sc_raw_ZFZE  (w : World) : Calls Tryz.prog 57 #[itA 0 ⟨#[]⟩ 0 false 0] w (NewLen w 1) := by
  go_enter Tryz.func57, Tryz.ntmps57
  go_wp2_with fail
  go_ret
  exact new_one (by simp) ⟨0, rfl, by omega⟩ (by go_grown)

set_option maxHeartbeats 1000000 in
theorem sc_raw_ZFZN (nm : ByteArray) (hnm : nm.toList.isEmpty = false) (w : World) : Calls Tryz.prog 57 #[itA 0 nm 0 false 0] w (NewLen w 0) := by
  go_enter Tryz.func57, Tryz.ntmps57
  go_wp2_with fail
  go_ret
  exact new_emp (by simp) (by go_grown)

end Go.Proofs.YtogdbfjagnbllaaGreatDoor

namespace Go.Proofs.YtogdbfjagnbllaaGreatDoor
open Go.RowKit Go

set_option maxHeartbeats 1000000 in
theorem sc_n7_NVZE (n : Int) (hn : (n == 0) = false) (x : Bool) (m : Nat) (HN : Hid (∀ W, Calls Tryz.prog 84 #[.int .i32 n, .bool x, .int .u32 8, .int .u32 2] W (NewLen W m))) (w : World) : Calls Tryz.prog 57 #[itA 7 ⟨#[]⟩ n x 0] w (NewLen w m) := by
  go_enter Tryz.func57, Tryz.ntmps57
  go_wp2_with fail
  refine (HN.out _).mono ?_
  rintro e w3 ⟨v, zs, rfl, hl, hz, hown, hb3⟩
  have HE := Lib.hid (show NewLen w m (.returned v) w3 from ⟨v, zs, rfl, hl, hz, own_base hown (by simp), (((Below.refl w.heap.size w).alloc (Nat.le_refl _) _).trans (hb3.mono (by simp)))⟩)
  clear hl hz hown hb3
  go_wp2_with fail
  go_ret
  exact HE.out

set_option maxHeartbeats 1000000 in
theorem sc_n7_NVNE (n : Int) (hn : (n == 0) = false) (x : Bool) (r : Nat) (hr : ((r : Int) == 0) = false) (w : World) : Calls Tryz.prog 57 #[itA 7 ⟨#[]⟩ n x (r : Int)] w (NewLen w 0) := by
  go_enter Tryz.func57, Tryz.ntmps57
  go_wp2_with fail
  go_ret
  exact new_emp (by simp) (by go_grown)

set_option maxHeartbeats 1000000 in
theorem sc_n7_NVVN (nm : ByteArray) (hnm : nm.toList.isEmpty = false) (n : Int) (hn : (n == 0) = false) (x : Bool) (r : Nat) (w : World) : Calls Tryz.prog 57 #[itA 7 nm n x (r : Int)] w (NewLen w 0) := by
  go_enter Tryz.func57, Tryz.ntmps57
  go_wp2_with fail
  go_ret
  exact new_emp (by simp) (by go_grown)

set_option maxHeartbeats 1000000 in
theorem sc_n7_ZTZE (m : Nat) (HN : Hid (∀ W, Calls Tryz.prog 84 #[.int .i32 0, .bool true, .int .u32 8, .int .u32 2] W (NewLen W m))) (w : World) : Calls Tryz.prog 57 #[itA 7 ⟨#[]⟩ 0 true 0] w (NewLen w m) := by
  go_enter Tryz.func57, Tryz.ntmps57
  go_wp2_with fail
  refine (HN.out _).mono ?_
  rintro e w3 ⟨v, zs, rfl, hl, hz, hown, hb3⟩
  have HE := Lib.hid (show NewLen w m (.returned v) w3 from ⟨v, zs, rfl, hl, hz, own_base hown (by simp), (((Below.refl w.heap.size w).alloc (Nat.le_refl _) _).trans (hb3.mono (by simp)))⟩)
  clear hl hz hown hb3
  go_wp2_with fail
  go_ret
  exact HE.out

set_option maxHeartbeats 1000000 in
theorem sc_n7_ZTNE (r : Nat) (hr : ((r : Int) == 0) = false) (w : World) : Calls Tryz.prog 57 #[itA 7 ⟨#[]⟩ 0 true (r : Int)] w (NewLen w 0) := by
  go_enter Tryz.func57, Tryz.ntmps57
  go_wp2_with fail
  go_ret
  exact new_emp (by simp) (by go_grown)

set_option maxHeartbeats 1000000 in
theorem sc_n7_ZTVN (nm : ByteArray) (hnm : nm.toList.isEmpty = false) (r : Nat) (w : World) : Calls Tryz.prog 57 #[itA 7 nm 0 true (r : Int)] w (NewLen w 0) := by
  go_enter Tryz.func57, Tryz.ntmps57
  go_wp2_with fail
  go_ret
  exact new_emp (by simp) (by go_grown)

set_option maxHeartbeats 1000000 in
theorem sc_n7_ZFNE (r : Nat) (hr : ((r : Int) == 0) = false) (w : World) : Calls Tryz.prog 57 #[itA 7 ⟨#[]⟩ 0 false (r : Int)] w (NewLen w 0) := by
  go_enter Tryz.func57, Tryz.ntmps57
  go_wp2_with fail
  go_ret
  exact new_emp (by simp) (by go_grown)

set_option maxHeartbeats 1000000 in
theorem sc_n7_ZFNN (nm : ByteArray) (hnm : nm.toList.isEmpty = false) (r : Nat) (hr : ((r : Int) == 0) = false) (w : World) : Calls Tryz.prog 57 #[itA 7 nm 0 false (r : Int)] w (NewLen w 0) := by
  go_enter Tryz.func57, Tryz.ntmps57
  go_wp2_with fail
  go_ret
  exact new_emp (by simp) (by go_grown)

set_option maxHeartbeats 1000000 in
theorem sc_n7_ZFZE (m : Nat) (HN : Hid (∀ W, Calls Tryz.prog 84 #[.int .i32 0, .bool false, .int .u32 8, .int .u32 2] W (NewLen W m))) (w : World) : Calls Tryz.prog 57 #[itA 7 ⟨#[]⟩ 0 false 0] w (NewLen w m) := by
  go_enter Tryz.func57, Tryz.ntmps57
  go_wp2_with fail
  refine (HN.out _).mono ?_
  rintro e w3 ⟨v, zs, rfl, hl, hz, hown, hb3⟩
  have HE := Lib.hid (show NewLen w m (.returned v) w3 from ⟨v, zs, rfl, hl, hz, own_base hown (by simp), (((Below.refl w.heap.size w).alloc (Nat.le_refl _) _).trans (hb3.mono (by simp)))⟩)
  clear hl hz hown hb3
  go_wp2_with fail
  go_ret
  exact HE.out

set_option maxHeartbeats 1000000 in
theorem sc_n7_ZFZN (nm : ByteArray) (hnm : nm.toList.isEmpty = false) (w : World) : Calls Tryz.prog 57 #[itA 7 nm 0 false 0] w (NewLen w 0) := by
  go_enter Tryz.func57, Tryz.ntmps57
  go_wp2_with fail
  go_ret
  exact new_emp (by simp) (by go_grown)

end Go.Proofs.YtogdbfjagnbllaaGreatDoor

namespace Go.Proofs.YtogdbfjagnbllaaGreatDoor
open Go.RowKit Go

set_option maxHeartbeats 1000000 in
theorem sc_n8_NVZE (n : Int) (hn : (n == 0) = false) (x : Bool) (m : Nat) (HN : Hid (∀ W, Calls Tryz.prog 84 #[.int .i32 n, .bool x, .int .u32 6, .int .u32 5] W (NewLen W m))) (w : World) : Calls Tryz.prog 57 #[itA 8 ⟨#[]⟩ n x 0] w (NewLen w m) := by
  go_enter Tryz.func57, Tryz.ntmps57
  go_wp2_with fail
  refine (HN.out _).mono ?_
  rintro e w3 ⟨v, zs, rfl, hl, hz, hown, hb3⟩
  have HE := Lib.hid (show NewLen w m (.returned v) w3 from ⟨v, zs, rfl, hl, hz, own_base hown (by simp), (((Below.refl w.heap.size w).alloc (Nat.le_refl _) _).trans (hb3.mono (by simp)))⟩)
  clear hl hz hown hb3
  go_wp2_with fail
  go_ret
  exact HE.out

set_option maxHeartbeats 1000000 in
theorem sc_n8_NVNE (n : Int) (hn : (n == 0) = false) (x : Bool) (r : Nat) (hr : ((r : Int) == 0) = false) (w : World) : Calls Tryz.prog 57 #[itA 8 ⟨#[]⟩ n x (r : Int)] w (NewLen w 0) := by
  go_enter Tryz.func57, Tryz.ntmps57
  go_wp2_with fail
  go_ret
  exact new_emp (by simp) (by go_grown)

set_option maxHeartbeats 1000000 in
theorem sc_n8_NVVN (nm : ByteArray) (hnm : nm.toList.isEmpty = false) (n : Int) (hn : (n == 0) = false) (x : Bool) (r : Nat) (w : World) : Calls Tryz.prog 57 #[itA 8 nm n x (r : Int)] w (NewLen w 0) := by
  go_enter Tryz.func57, Tryz.ntmps57
  go_wp2_with fail
  go_ret
  exact new_emp (by simp) (by go_grown)

set_option maxHeartbeats 1000000 in
theorem sc_n8_ZTZE (m : Nat) (HN : Hid (∀ W, Calls Tryz.prog 84 #[.int .i32 0, .bool true, .int .u32 6, .int .u32 5] W (NewLen W m))) (w : World) : Calls Tryz.prog 57 #[itA 8 ⟨#[]⟩ 0 true 0] w (NewLen w m) := by
  go_enter Tryz.func57, Tryz.ntmps57
  go_wp2_with fail
  refine (HN.out _).mono ?_
  rintro e w3 ⟨v, zs, rfl, hl, hz, hown, hb3⟩
  have HE := Lib.hid (show NewLen w m (.returned v) w3 from ⟨v, zs, rfl, hl, hz, own_base hown (by simp), (((Below.refl w.heap.size w).alloc (Nat.le_refl _) _).trans (hb3.mono (by simp)))⟩)
  clear hl hz hown hb3
  go_wp2_with fail
  go_ret
  exact HE.out

set_option maxHeartbeats 1000000 in
theorem sc_n8_ZTNE (r : Nat) (hr : ((r : Int) == 0) = false) (w : World) : Calls Tryz.prog 57 #[itA 8 ⟨#[]⟩ 0 true (r : Int)] w (NewLen w 0) := by
  go_enter Tryz.func57, Tryz.ntmps57
  go_wp2_with fail
  go_ret
  exact new_emp (by simp) (by go_grown)

set_option maxHeartbeats 1000000 in
theorem sc_n8_ZTVN (nm : ByteArray) (hnm : nm.toList.isEmpty = false) (r : Nat) (w : World) : Calls Tryz.prog 57 #[itA 8 nm 0 true (r : Int)] w (NewLen w 0) := by
  go_enter Tryz.func57, Tryz.ntmps57
  go_wp2_with fail
  go_ret
  exact new_emp (by simp) (by go_grown)

set_option maxHeartbeats 1000000 in
theorem sc_n8_ZFNE (r : Nat) (hr : ((r : Int) == 0) = false) (w : World) : Calls Tryz.prog 57 #[itA 8 ⟨#[]⟩ 0 false (r : Int)] w (NewLen w 0) := by
  go_enter Tryz.func57, Tryz.ntmps57
  go_wp2_with fail
  go_ret
  exact new_emp (by simp) (by go_grown)

set_option maxHeartbeats 1000000 in
theorem sc_n8_ZFNN (nm : ByteArray) (hnm : nm.toList.isEmpty = false) (r : Nat) (hr : ((r : Int) == 0) = false) (w : World) : Calls Tryz.prog 57 #[itA 8 nm 0 false (r : Int)] w (NewLen w 0) := by
  go_enter Tryz.func57, Tryz.ntmps57
  go_wp2_with fail
  go_ret
  exact new_emp (by simp) (by go_grown)

set_option maxHeartbeats 1000000 in
theorem sc_n8_ZFZE (m : Nat) (HN : Hid (∀ W, Calls Tryz.prog 84 #[.int .i32 0, .bool false, .int .u32 6, .int .u32 5] W (NewLen W m))) (w : World) : Calls Tryz.prog 57 #[itA 8 ⟨#[]⟩ 0 false 0] w (NewLen w m) := by
  go_enter Tryz.func57, Tryz.ntmps57
  go_wp2_with fail
  refine (HN.out _).mono ?_
  rintro e w3 ⟨v, zs, rfl, hl, hz, hown, hb3⟩
  have HE := Lib.hid (show NewLen w m (.returned v) w3 from ⟨v, zs, rfl, hl, hz, own_base hown (by simp), (((Below.refl w.heap.size w).alloc (Nat.le_refl _) _).trans (hb3.mono (by simp)))⟩)
  clear hl hz hown hb3
  go_wp2_with fail
  go_ret
  exact HE.out

set_option maxHeartbeats 1000000 in
theorem sc_n8_ZFZN (nm : ByteArray) (hnm : nm.toList.isEmpty = false) (w : World) : Calls Tryz.prog 57 #[itA 8 nm 0 false 0] w (NewLen w 0) := by
  go_enter Tryz.func57, Tryz.ntmps57
  go_wp2_with fail
  go_ret
  exact new_emp (by simp) (by go_grown)

end Go.Proofs.YtogdbfjagnbllaaGreatDoor
