/-
  Whether two items are alike; what kind of shape an item has.
  The shape of an item, by its kind.
  CellsOf of the program: how many cells there are, whatever the tables hold.
  The model's CellsOf at a variable: how many cells there are.
  CellsOf of the program at a word: how many cells there are, whatever the tables hold.
  CellsOf of the program at a number: how many cells there are, whatever the tables hold.
  CellsOf of the program at a variable: how many cells there are, whatever the tables hold.
  CellsOf of the program at a raw cell: how many cells there are, whatever the tables hold.
  CellsOf and ItemOk of the program: how many cells an item has, whatever the tables hold.
  CellsOf and ItemOk of the model: how many cells an item has.
  The laws' own helpers on items: the copy of one, its size, whether two are alike.
  laws.FnExactItemOk answers true at every item.
-/
import Derived.Test.YtogdbfjagnbllaaGreatDoorRI4
import Derived.Laws.StructEq
import Derived.Handy
namespace Go.Proofs.YtogdbfjagnbllaaGreatDoor
open Go.RowKit Go

theorem item_eql_raw (w : World) (k1 : Int) (nm1 : ByteArray) (n1 : Int) (x1 : Bool) (r1 : Int) (k2 : Int) (nm2 : ByteArray) (n2 : Int) (x2 : Bool) (r2 : Int) :
    (binOp .eql 38 (itA k1 nm1 n1 x1 r1) (itA k2 nm2 n2 x2 r2)).run Tryz.prog w = .ok (.bool (k1 == k2 && (nm1.toList == nm2.toList && (n1 == n2 && (x1 == x2 && r1 == r2))))) w := by
  simp [go_sem, Tryz.underlying38, Tryz.underlying3, Tryz.underlying9, Tryz.underlying21, Tryz.underlying4, Tryz.underlying36]
  (repeat' split) <;> simp_all
theorem item_neq_raw (w : World) (k1 : Int) (nm1 : ByteArray) (n1 : Int) (x1 : Bool) (r1 : Int) (k2 : Int) (nm2 : ByteArray) (n2 : Int) (x2 : Bool) (r2 : Int) :
    (binOp .neq 38 (itA k1 nm1 n1 x1 r1) (itA k2 nm2 n2 x2 r2)).run Tryz.prog w = .ok (.bool (!(k1 == k2 && (nm1.toList == nm2.toList && (n1 == n2 && (x1 == x2 && r1 == r2)))))) w := by
  simp [go_sem, Tryz.underlying38, Tryz.underlying3, Tryz.underlying9, Tryz.underlying21, Tryz.underlying4, Tryz.underlying36]
  (repeat' split) <;> simp_all
theorem text_inj {a b : ByteArray} : a.toList = b.toList ↔ a = b := by
  rw [ByteArray.toList_eq, ByteArray.toList_eq]
  exact ⟨fun h => Go.WideShapes.bytes_inj h, fun h => by rw [h]⟩
theorem same_iff (a b : It) : (a.kind == b.kind && (a.name.toList == b.name.toList && (a.n == b.n && (a.hex == b.hex && (a.raw : Int) == (b.raw : Int))))) = decide (a = b) := by
  obtain ⟨k1, nm1, n1, x1, r1⟩ := a
  obtain ⟨k2, nm2, n2, x2, r2⟩ := b
  rw [Bool.eq_iff_iff]
  simp [text_inj]
  intro _ _ _ _
  omega
/-- The value of an item. -/
abbrev itVal (a : It) : Value := itA a.kind a.name a.n a.hex (a.raw : Int)
theorem item_eql (w : World) (a b : It) : (binOp .eql 38 (itVal a) (itVal b)).run Tryz.prog w = .ok (.bool (decide (a = b))) w := by rw [item_eql_raw, same_iff]
theorem item_neq (w : World) (a b : It) : (binOp .neq 38 (itVal a) (itVal b)).run Tryz.prog w = .ok (.bool (!decide (a = b))) w := by rw [item_neq_raw, same_iff]

theorem isword_any (k : Int) (w : World) : Calls Tryz.prog 53 #[.int .i64 k] w fun e w' => e = .returned (.bool (wordK k)) ∧ w = w' := by
  by_cases h1 : 1 ≤ k
  · by_cases h2 : k ≤ 6
    · have e : wordK k = true := decide_eq_true ⟨h1, h2⟩
      rw [e]
      clear e
      go_enter Tryz.func53, Tryz.ntmps53
      go_wp2_with fail
      go_ret
      exact ⟨rfl, rfl⟩
    · have e : wordK k = false := decide_eq_false (by omega)
      rw [e]
      clear e
      go_enter Tryz.func53, Tryz.ntmps53
      go_wp2_with fail
      go_ret
      exact ⟨rfl, rfl⟩
  · have e : wordK k = false := decide_eq_false (by omega)
    rw [e]
    clear e
    go_enter Tryz.func53, Tryz.ntmps53
    go_wp2_with fail
    go_ret
    exact ⟨rfl, rfl⟩
theorem isnumber_any (k : Int) (w : World) : Calls Tryz.prog 54 #[.int .i64 k] w fun e w' => e = .returned (.bool (numK k)) ∧ w = w' := by
  by_cases h1 : k = 7
  · have e : numK k = true := decide_eq_true (by omega)
    have b1 : (k == 7) = true := by simpa using h1
    rw [e]
    clear e h1
    go_enter Tryz.func54, Tryz.ntmps54
    go_wp2_with fail
    go_ret
    exact ⟨rfl, rfl⟩
  · have b1 : (k == 7) = false := by simpa using h1
    by_cases h2 : k = 8
    · have e : numK k = true := decide_eq_true (by omega)
      have b2 : (k == 8) = true := by simpa using h2
      rw [e]
      clear e h1 h2
      go_enter Tryz.func54, Tryz.ntmps54
      go_wp2_with fail
      go_ret
      exact ⟨rfl, rfl⟩
    · have b2 : (k == 8) = false := by simpa using h2
      have e : numK k = false := decide_eq_false (by omega)
      rw [e]
      clear e h1 h2
      go_enter Tryz.func54, Tryz.ntmps54
      go_wp2_with fail
      go_ret
      exact ⟨rfl, rfl⟩
end Go.Proofs.YtogdbfjagnbllaaGreatDoor

namespace Go.Proofs.YtogdbfjagnbllaaGreatDoor
open Go.RowKit Go

set_option maxHeartbeats 1000000 in
theorem shape_word (it : It) (h : wordK it.kind = true) (w : World) : Calls Tryz.prog 96 #[itVal it] w fun e w' => e = .returned (.iface 148 (.agg #[.int .i64 it.kind, .string it.name])) ∧ Below w.heap.size w w' := by
  have HW : Hid (∀ W, Calls Tryz.prog 53 #[.int .i64 it.kind] W fun e w' => e = .returned (.bool true) ∧ W = w') := Lib.hid fun W => by rw [← h]; exact isword_any _ W
  obtain ⟨k, nm, n, x, r⟩ := it
  clear h
  go_enter Tryz.func96, Tryz.ntmps96
  go_wp2_with fail
  refine (HW.out _).mono ?_
  rintro e w' ⟨rfl, rfl⟩
  go_wp2_with fail
  go_ret
  exact ⟨rfl, by go_grown⟩
set_option maxHeartbeats 1000000 in
theorem shape_num (it : It) (h : numK it.kind = true) (w : World) : Calls Tryz.prog 96 #[itVal it] w fun e w' => e = .returned (.iface 150 (.agg #[.int .i64 it.kind, .int .i32 it.n, .bool it.hex])) ∧ Below w.heap.size w w' := by
  have h2 : wordK it.kind = false := by have := of_decide_eq_true h; exact decide_eq_false (by omega)
  have HW : Hid (∀ W, Calls Tryz.prog 53 #[.int .i64 it.kind] W fun e w' => e = .returned (.bool false) ∧ W = w') := Lib.hid fun W => by rw [← h2]; exact isword_any _ W
  have HN : Hid (∀ W, Calls Tryz.prog 54 #[.int .i64 it.kind] W fun e w' => e = .returned (.bool true) ∧ W = w') := Lib.hid fun W => by rw [← h]; exact isnumber_any _ W
  obtain ⟨k, nm, n, x, r⟩ := it
  clear h h2
  go_enter Tryz.func96, Tryz.ntmps96
  go_wp2_with fail
  refine (HW.out _).mono ?_
  rintro e w' ⟨rfl, rfl⟩
  go_wp2_with fail
  refine (HN.out _).mono ?_
  rintro e w' ⟨rfl, rfl⟩
  go_wp2_with fail
  go_ret
  exact ⟨rfl, by go_grown⟩
set_option maxHeartbeats 1000000 in
theorem shape_var (it : It) (h : it.kind = 9) (w : World) : Calls Tryz.prog 96 #[itVal it] w fun e w' => e = .returned (.iface 152 (.agg #[.int .i64 it.kind, .string it.name, .int .i32 it.n])) ∧ Below w.heap.size w w' := by
  have h2 : wordK it.kind = false := decide_eq_false (by omega)
  have h3 : numK it.kind = false := decide_eq_false (by omega)
  have HW : Hid (∀ W, Calls Tryz.prog 53 #[.int .i64 it.kind] W fun e w' => e = .returned (.bool false) ∧ W = w') := Lib.hid fun W => by rw [← h2]; exact isword_any _ W
  have HN : Hid (∀ W, Calls Tryz.prog 54 #[.int .i64 it.kind] W fun e w' => e = .returned (.bool false) ∧ W = w') := Lib.hid fun W => by rw [← h3]; exact isnumber_any _ W
  obtain ⟨k, nm, n, x, r⟩ := it
  have b9 : (k == 9) = true := by simpa using h
  clear h h2 h3
  go_enter Tryz.func96, Tryz.ntmps96
  go_wp2_with fail
  refine (HW.out _).mono ?_
  rintro e w' ⟨rfl, rfl⟩
  go_wp2_with fail
  refine (HN.out _).mono ?_
  rintro e w' ⟨rfl, rfl⟩
  go_wp2_with fail
  go_ret
  exact ⟨rfl, by go_grown⟩
set_option maxHeartbeats 1000000 in
theorem shape_raw (it : It) (h1 : ¬ (1 ≤ it.kind ∧ it.kind ≤ 9)) (w : World) : Calls Tryz.prog 96 #[itVal it] w fun e w' => e = .returned (.iface 154 (.agg #[.int .i64 0, .int .u32 (it.raw : Int)])) ∧ Below w.heap.size w w' := by
  have h2 : wordK it.kind = false := decide_eq_false (by omega)
  have h3 : numK it.kind = false := decide_eq_false (by omega)
  have HW : Hid (∀ W, Calls Tryz.prog 53 #[.int .i64 it.kind] W fun e w' => e = .returned (.bool false) ∧ W = w') := Lib.hid fun W => by rw [← h2]; exact isword_any _ W
  have HN : Hid (∀ W, Calls Tryz.prog 54 #[.int .i64 it.kind] W fun e w' => e = .returned (.bool false) ∧ W = w') := Lib.hid fun W => by rw [← h3]; exact isnumber_any _ W
  have b9 : (it.kind == 9) = false := by simp; omega
  obtain ⟨k, nm, n, x, r⟩ := it
  clear h1 h2 h3
  go_enter Tryz.func96, Tryz.ntmps96
  go_wp2_with fail
  refine (HW.out _).mono ?_
  rintro e w' ⟨rfl, rfl⟩
  go_wp2_with fail
  refine (HN.out _).mono ?_
  rintro e w' ⟨rfl, rfl⟩
  go_wp2_with fail
  go_ret
  exact ⟨rfl, by go_grown⟩
end Go.Proofs.YtogdbfjagnbllaaGreatDoor

namespace Go.Proofs.YtogdbfjagnbllaaGreatDoor
open Go.RowKit Go

theorem it_box {w w' : World} {k n r : Int} {nm : ByteArray} {x : Bool} {t : TypeId} (hB : Below (w.heap.size + 1) (w.alloc (.cells #[.int .i64 k, .string nm, .int .i32 n, .bool x, .int .u32 r] t)) w') :
    w'.cell? ⟨w.heap.size, 0, none⟩ = some (.int .i64 k) ∧ w'.cell? ⟨w.heap.size, 1, none⟩ = some (.string nm) ∧ w'.cell? ⟨w.heap.size, 2, none⟩ = some (.int .i32 n) ∧ w'.cell? ⟨w.heap.size, 3, none⟩ = some (.bool x) ∧ w'.cell? ⟨w.heap.size, 4, none⟩ = some (.int .u32 r) := by
  have h := (Blk.new w t #[.int .i64 k, .string nm, .int .i32 n, .bool x, .int .u32 r]).below hB (by omega)
  exact ⟨h.cell 0, h.cell 1, h.cell 2, h.cell 3, h.cell 4⟩
theorem it_keep {w w1 w2 : World} {k n r : Int} {nm : ByteArray} {x : Bool} {t : TypeId} (h1 : Below (w.heap.size + 1) (w.alloc (.cells #[.int .i64 k, .string nm, .int .i32 n, .bool x, .int .u32 r] t)) w1) (h2 : Below w1.drew.heap.size w1.drew w2) :
    w2.cell? ⟨w.heap.size, 0, none⟩ = some (.int .i64 k) ∧ w2.cell? ⟨w.heap.size, 1, none⟩ = some (.string nm) ∧ w2.cell? ⟨w.heap.size, 2, none⟩ = some (.int .i32 n) ∧ w2.cell? ⟨w.heap.size, 3, none⟩ = some (.bool x) ∧ w2.cell? ⟨w.heap.size, 4, none⟩ = some (.int .u32 r) := by
  have hs : w.heap.size + 1 ≤ w1.heap.size := by have := h1.size; simpa using this
  exact it_box (h1.drew.trans (h2.mono hs))

/-- A list that is empty. -/
theorem new_none {w w' : World} (hB : Below w.heap.size w w') : NewLen w 0 (.returned (.slice none 0 0)) w' := ⟨_, [], rfl, rfl, fun _ hz => absurd hz List.not_mem_nil, World.ownsRow_nil _ _ _ _, hB⟩

end Go.Proofs.YtogdbfjagnbllaaGreatDoor

namespace Go.Proofs.YtogdbfjagnbllaaGreatDoor
open Go.RowKit Go

set_option maxHeartbeats 1000000 in
theorem sc_var_NTV (nm : ByteArray) (n : Int) (hn : (n == 0) = false) (r : Nat) (m : Nat) (h1 : m = 1) (HWD : Hid (∀ W, Calls Tryz.prog 85 #[.int .u32 12, .string nm] W (NewLen W m))) (w : World) : Calls Tryz.prog 57 #[itA 9 nm n true (r : Int)] w (NewLen w 0) := by
  subst h1
  go_enter Tryz.func57, Tryz.ntmps57
  go_wp2_with fail
  refine (HWD.out _).mono ?_
  rintro e w3 ⟨v, zs, rfl, hl, hz, hown, hb3⟩
  have HE := Lib.hid (show w3.ownsRow w.heap.size 36 1 v zs.length (zs.map u32v) ∧ (∀ z ∈ zs, z < 4294967296) ∧ Below w.heap.size w w3 from ⟨own_base hown (by simp), hz, (((Below.refl w.heap.size w).alloc (Nat.le_refl _) _).trans (hb3.mono (by simp)))⟩)
  obtain ⟨A, cap, rfl⟩ := own_slice hown
  have hb4 : Below (w.heap.size + 1) (w.alloc (.cells #[.int .i64 9, .string nm, .int .i32 n, .bool true, .int .u32 (r : Int)] 38)) w3 := hb3.mono (by simp)
  obtain ⟨c0, c1, c2, c3, c4⟩ := it_box hb4
  have HL := Lib.hid hl
  rw [hl]
  clear hl hz hb3 hb4 hown
  go_wp2_with fail
  go_ret
  exact ⟨_, [], rfl, rfl, fun _ hz => absurd hz List.not_mem_nil, own_base (own_empty _ _) HE.out.2.2.size, HE.out.2.2.alloc HE.out.2.2.size _⟩

set_option maxHeartbeats 1000000 in
theorem sc_var_NFZ (nm : ByteArray) (n : Int) (hn : (n == 0) = false) (m : Nat) (h1 : m = 1) (HWD : Hid (∀ W, Calls Tryz.prog 85 #[.int .u32 12, .string nm] W (NewLen W m))) (w : World) : Calls Tryz.prog 57 #[itA 9 nm n false 0] w (NewLen w 2) := by
  obtain ⟨i0, hi, hz0, hz1, hz2⟩ := info_parts infoU32
  subst h1
  go_enter Tryz.func57, Tryz.ntmps57
  go_wp2_with fail
  refine (HWD.out _).mono ?_
  rintro e w3 ⟨v, zs, rfl, hl, hz, hown, hb3⟩
  have HE := Lib.hid (show w3.ownsRow w.heap.size 36 1 v zs.length (zs.map u32v) ∧ (∀ z ∈ zs, z < 4294967296) ∧ Below w.heap.size w w3 from ⟨own_base hown (by simp), hz, (((Below.refl w.heap.size w).alloc (Nat.le_refl _) _).trans (hb3.mono (by simp)))⟩)
  obtain ⟨A, cap, rfl⟩ := own_slice hown
  have hb4 : Below (w.heap.size + 1) (w.alloc (.cells #[.int .i64 9, .string nm, .int .i32 n, .bool false, .int .u32 0] 38)) w3 := hb3.mono (by simp)
  obtain ⟨c0, c1, c2, c3, c4⟩ := it_box hb4
  have hlt : w.heap.size < w3.heap.size := by have := hb3.size; simp at this; omega
  have hown2 := own_base hown (show w.heap.size ≤ _ by simp)
  rw [hl] at hown2
  rw [hl]
  obtain ⟨y, hy, hyl⟩ := u32_some (n)
  have HYL := Lib.hid hyl
  have HL := Lib.hid hl
  clear hl hz hb3 hb4 hyl hown
  go_wp2_with (at_builtin; refine wpList_append_own _ rfl _ _ 24 rfl w.heap.size 36 i0 (.int .u32 0) 1 4 Tryz.underlying24 hi hz0 hz1 hz2 rfl (by decide) _ _ _ rfl (hown2.alloc _) ⟨w3.heap.size, 0, none⟩ 1 1 [.int .u32 (y : Int)] rfl rfl (cell_one_new _ _ _) (by simp [Value.oneCell']) (by unfold maxLen; omega) (by omega) (by simp; omega) ?_; intro v' w4 hown' hgrow _)
  go_ret
  exact ⟨v', zs ++ [y], rfl, by rw [List.length_append, HL.out]; rfl, (snoc_len (pre := zs) (p := 0) ⟨rfl, HE.out.2.1⟩ HYL.out).2, by rw [List.length_append, HL.out, List.map_append]; exact hown', (HE.out.2.2.alloc HE.out.2.2.size _).grown hgrow (by simp; omega) (own_lt hown2)⟩

set_option maxHeartbeats 1000000 in
theorem sc_var_NFN (nm : ByteArray) (n : Int) (hn : (n == 0) = false) (r : Nat) (hr : ((r : Int) == 0) = false) (m : Nat) (h1 : m = 1) (HWD : Hid (∀ W, Calls Tryz.prog 85 #[.int .u32 12, .string nm] W (NewLen W m))) (w : World) : Calls Tryz.prog 57 #[itA 9 nm n false (r : Int)] w (NewLen w 0) := by
  subst h1
  go_enter Tryz.func57, Tryz.ntmps57
  go_wp2_with fail
  refine (HWD.out _).mono ?_
  rintro e w3 ⟨v, zs, rfl, hl, hz, hown, hb3⟩
  have HE := Lib.hid (show w3.ownsRow w.heap.size 36 1 v zs.length (zs.map u32v) ∧ (∀ z ∈ zs, z < 4294967296) ∧ Below w.heap.size w w3 from ⟨own_base hown (by simp), hz, (((Below.refl w.heap.size w).alloc (Nat.le_refl _) _).trans (hb3.mono (by simp)))⟩)
  obtain ⟨A, cap, rfl⟩ := own_slice hown
  have hb4 : Below (w.heap.size + 1) (w.alloc (.cells #[.int .i64 9, .string nm, .int .i32 n, .bool false, .int .u32 (r : Int)] 38)) w3 := hb3.mono (by simp)
  obtain ⟨c0, c1, c2, c3, c4⟩ := it_box hb4
  have HL := Lib.hid hl
  rw [hl]
  clear hl hz hb3 hb4 hown
  go_wp2_with fail
  go_ret
  exact ⟨_, [], rfl, rfl, fun _ hz => absurd hz List.not_mem_nil, own_base (own_empty _ _) HE.out.2.2.size, HE.out.2.2.alloc HE.out.2.2.size _⟩

set_option maxHeartbeats 1000000 in
theorem sc_var_ZTV (nm : ByteArray) (r : Nat) (m : Nat) (h1 : m = 1) (HWD : Hid (∀ W, Calls Tryz.prog 85 #[.int .u32 12, .string nm] W (NewLen W m))) (w : World) : Calls Tryz.prog 57 #[itA 9 nm 0 true (r : Int)] w (NewLen w 0) := by
  subst h1
  go_enter Tryz.func57, Tryz.ntmps57
  go_wp2_with fail
  refine (HWD.out _).mono ?_
  rintro e w3 ⟨v, zs, rfl, hl, hz, hown, hb3⟩
  have HE := Lib.hid (show w3.ownsRow w.heap.size 36 1 v zs.length (zs.map u32v) ∧ (∀ z ∈ zs, z < 4294967296) ∧ Below w.heap.size w w3 from ⟨own_base hown (by simp), hz, (((Below.refl w.heap.size w).alloc (Nat.le_refl _) _).trans (hb3.mono (by simp)))⟩)
  obtain ⟨A, cap, rfl⟩ := own_slice hown
  have hb4 : Below (w.heap.size + 1) (w.alloc (.cells #[.int .i64 9, .string nm, .int .i32 0, .bool true, .int .u32 (r : Int)] 38)) w3 := hb3.mono (by simp)
  obtain ⟨c0, c1, c2, c3, c4⟩ := it_box hb4
  have HL := Lib.hid hl
  rw [hl]
  clear hl hz hb3 hb4 hown
  go_wp2_with fail
  go_ret
  exact ⟨_, [], rfl, rfl, fun _ hz => absurd hz List.not_mem_nil, own_base (own_empty _ _) HE.out.2.2.size, HE.out.2.2.alloc HE.out.2.2.size _⟩

set_option maxHeartbeats 1000000 in
theorem sc_var_ZFN (nm : ByteArray) (r : Nat) (hr : ((r : Int) == 0) = false) (m : Nat) (h1 : m = 1) (HWD : Hid (∀ W, Calls Tryz.prog 85 #[.int .u32 12, .string nm] W (NewLen W m))) (w : World) : Calls Tryz.prog 57 #[itA 9 nm 0 false (r : Int)] w (NewLen w 0) := by
  subst h1
  go_enter Tryz.func57, Tryz.ntmps57
  go_wp2_with fail
  refine (HWD.out _).mono ?_
  rintro e w3 ⟨v, zs, rfl, hl, hz, hown, hb3⟩
  have HE := Lib.hid (show w3.ownsRow w.heap.size 36 1 v zs.length (zs.map u32v) ∧ (∀ z ∈ zs, z < 4294967296) ∧ Below w.heap.size w w3 from ⟨own_base hown (by simp), hz, (((Below.refl w.heap.size w).alloc (Nat.le_refl _) _).trans (hb3.mono (by simp)))⟩)
  obtain ⟨A, cap, rfl⟩ := own_slice hown
  have hb4 : Below (w.heap.size + 1) (w.alloc (.cells #[.int .i64 9, .string nm, .int .i32 0, .bool false, .int .u32 (r : Int)] 38)) w3 := hb3.mono (by simp)
  obtain ⟨c0, c1, c2, c3, c4⟩ := it_box hb4
  have HL := Lib.hid hl
  rw [hl]
  clear hl hz hb3 hb4 hown
  go_wp2_with fail
  go_ret
  exact ⟨_, [], rfl, rfl, fun _ hz => absurd hz List.not_mem_nil, own_base (own_empty _ _) HE.out.2.2.size, HE.out.2.2.alloc HE.out.2.2.size _⟩

set_option maxHeartbeats 1000000 in
theorem sc_var_ZFZ (nm : ByteArray) (m : Nat) (h1 : m = 1) (HWD : Hid (∀ W, Calls Tryz.prog 85 #[.int .u32 12, .string nm] W (NewLen W m))) (w : World) : Calls Tryz.prog 57 #[itA 9 nm 0 false 0] w (NewLen w 2) := by
  obtain ⟨i0, hi, hz0, hz1, hz2⟩ := info_parts infoU32
  subst h1
  go_enter Tryz.func57, Tryz.ntmps57
  go_wp2_with fail
  refine (HWD.out _).mono ?_
  rintro e w3 ⟨v, zs, rfl, hl, hz, hown, hb3⟩
  have HE := Lib.hid (show w3.ownsRow w.heap.size 36 1 v zs.length (zs.map u32v) ∧ (∀ z ∈ zs, z < 4294967296) ∧ Below w.heap.size w w3 from ⟨own_base hown (by simp), hz, (((Below.refl w.heap.size w).alloc (Nat.le_refl _) _).trans (hb3.mono (by simp)))⟩)
  obtain ⟨A, cap, rfl⟩ := own_slice hown
  have hb4 : Below (w.heap.size + 1) (w.alloc (.cells #[.int .i64 9, .string nm, .int .i32 0, .bool false, .int .u32 0] 38)) w3 := hb3.mono (by simp)
  obtain ⟨c0, c1, c2, c3, c4⟩ := it_box hb4
  have hlt : w.heap.size < w3.heap.size := by have := hb3.size; simp at this; omega
  have hown2 := own_base hown (show w.heap.size ≤ _ by simp)
  rw [hl] at hown2
  rw [hl]
  obtain ⟨y, hy, hyl⟩ := u32_some (0)
  have HYL := Lib.hid hyl
  have HL := Lib.hid hl
  clear hl hz hb3 hb4 hyl hown
  go_wp2_with (at_builtin; refine wpList_append_own _ rfl _ _ 24 rfl w.heap.size 36 i0 (.int .u32 0) 1 4 Tryz.underlying24 hi hz0 hz1 hz2 rfl (by decide) _ _ _ rfl (hown2.alloc _) ⟨w3.heap.size, 0, none⟩ 1 1 [.int .u32 (y : Int)] rfl rfl (cell_one_new _ _ _) (by simp [Value.oneCell']) (by unfold maxLen; omega) (by omega) (by simp; omega) ?_; intro v' w4 hown' hgrow _)
  go_ret
  exact ⟨v', zs ++ [y], rfl, by rw [List.length_append, HL.out]; rfl, (snoc_len (pre := zs) (p := 0) ⟨rfl, HE.out.2.1⟩ HYL.out).2, by rw [List.length_append, HL.out, List.map_append]; exact hown', (HE.out.2.2.alloc HE.out.2.2.size _).grown hgrow (by simp; omega) (own_lt hown2)⟩

set_option maxHeartbeats 1000000 in
theorem sc_vno_NVV (nm : ByteArray) (n : Int) (hn : (n == 0) = false) (x : Bool) (r : Nat) (m : Nat) (h1 : m ≠ 1) (HWD : Hid (∀ W, Calls Tryz.prog 85 #[.int .u32 12, .string nm] W (NewLen W m))) (w : World) : Calls Tryz.prog 57 #[itA 9 nm n x (r : Int)] w (NewLen w 0) := by
  go_enter Tryz.func57, Tryz.ntmps57
  go_wp2_with fail
  refine (HWD.out _).mono ?_
  rintro e w3 ⟨v, zs, rfl, hl, hz, hown, hb3⟩
  have HE := Lib.hid (show w3.ownsRow w.heap.size 36 1 v zs.length (zs.map u32v) ∧ (∀ z ∈ zs, z < 4294967296) ∧ Below w.heap.size w w3 from ⟨own_base hown (by simp), hz, (((Below.refl w.heap.size w).alloc (Nat.le_refl _) _).trans (hb3.mono (by simp)))⟩)
  obtain ⟨A, cap, rfl⟩ := own_slice hown
  have hne : ((zs.length : Int) == 1) = false := by simp; omega
  clear hl hz hb3 hown h1
  go_wp2_with fail
  go_ret
  exact ⟨_, [], rfl, rfl, fun _ hz => absurd hz List.not_mem_nil, own_base (own_empty _ _) HE.out.2.2.size, HE.out.2.2.alloc HE.out.2.2.size _⟩

set_option maxHeartbeats 1000000 in
theorem sc_vno_ZTV (nm : ByteArray) (r : Nat) (m : Nat) (h1 : m ≠ 1) (HWD : Hid (∀ W, Calls Tryz.prog 85 #[.int .u32 12, .string nm] W (NewLen W m))) (w : World) : Calls Tryz.prog 57 #[itA 9 nm 0 true (r : Int)] w (NewLen w 0) := by
  go_enter Tryz.func57, Tryz.ntmps57
  go_wp2_with fail
  refine (HWD.out _).mono ?_
  rintro e w3 ⟨v, zs, rfl, hl, hz, hown, hb3⟩
  have HE := Lib.hid (show w3.ownsRow w.heap.size 36 1 v zs.length (zs.map u32v) ∧ (∀ z ∈ zs, z < 4294967296) ∧ Below w.heap.size w w3 from ⟨own_base hown (by simp), hz, (((Below.refl w.heap.size w).alloc (Nat.le_refl _) _).trans (hb3.mono (by simp)))⟩)
  obtain ⟨A, cap, rfl⟩ := own_slice hown
  have hne : ((zs.length : Int) == 1) = false := by simp; omega
  clear hl hz hb3 hown h1
  go_wp2_with fail
  go_ret
  exact ⟨_, [], rfl, rfl, fun _ hz => absurd hz List.not_mem_nil, own_base (own_empty _ _) HE.out.2.2.size, HE.out.2.2.alloc HE.out.2.2.size _⟩

set_option maxHeartbeats 1000000 in
theorem sc_vno_ZFN (nm : ByteArray) (r : Nat) (hr : ((r : Int) == 0) = false) (m : Nat) (h1 : m ≠ 1) (HWD : Hid (∀ W, Calls Tryz.prog 85 #[.int .u32 12, .string nm] W (NewLen W m))) (w : World) : Calls Tryz.prog 57 #[itA 9 nm 0 false (r : Int)] w (NewLen w 0) := by
  go_enter Tryz.func57, Tryz.ntmps57
  go_wp2_with fail
  refine (HWD.out _).mono ?_
  rintro e w3 ⟨v, zs, rfl, hl, hz, hown, hb3⟩
  have HE := Lib.hid (show w3.ownsRow w.heap.size 36 1 v zs.length (zs.map u32v) ∧ (∀ z ∈ zs, z < 4294967296) ∧ Below w.heap.size w w3 from ⟨own_base hown (by simp), hz, (((Below.refl w.heap.size w).alloc (Nat.le_refl _) _).trans (hb3.mono (by simp)))⟩)
  obtain ⟨A, cap, rfl⟩ := own_slice hown
  have hne : ((zs.length : Int) == 1) = false := by simp; omega
  clear hl hz hb3 hown h1
  go_wp2_with fail
  go_ret
  exact ⟨_, [], rfl, rfl, fun _ hz => absurd hz List.not_mem_nil, own_base (own_empty _ _) HE.out.2.2.size, HE.out.2.2.alloc HE.out.2.2.size _⟩

set_option maxHeartbeats 1000000 in
theorem sc_vno_ZFZ (nm : ByteArray) (m : Nat) (h1 : m ≠ 1) (HWD : Hid (∀ W, Calls Tryz.prog 85 #[.int .u32 12, .string nm] W (NewLen W m))) (w : World) : Calls Tryz.prog 57 #[itA 9 nm 0 false 0] w (NewLen w 0) := by
  go_enter Tryz.func57, Tryz.ntmps57
  go_wp2_with fail
  refine (HWD.out _).mono ?_
  rintro e w3 ⟨v, zs, rfl, hl, hz, hown, hb3⟩
  have HE := Lib.hid (show w3.ownsRow w.heap.size 36 1 v zs.length (zs.map u32v) ∧ (∀ z ∈ zs, z < 4294967296) ∧ Below w.heap.size w w3 from ⟨own_base hown (by simp), hz, (((Below.refl w.heap.size w).alloc (Nat.le_refl _) _).trans (hb3.mono (by simp)))⟩)
  obtain ⟨A, cap, rfl⟩ := own_slice hown
  have hne : ((zs.length : Int) == 1) = false := by simp; omega
  clear hl hz hb3 hown h1
  go_wp2_with fail
  go_ret
  exact ⟨_, [], rfl, rfl, fun _ hz => absurd hz List.not_mem_nil, own_base (own_empty _ _) HE.out.2.2.size, HE.out.2.2.alloc HE.out.2.2.size _⟩

end Go.Proofs.YtogdbfjagnbllaaGreatDoor

namespace Go.Proofs.YtogdbfjagnbllaaGreatDoor
open Go.RowKit Go

set_option maxHeartbeats 2000000 in
theorem cellsof_word_yes (k : Int) (nm : ByteArray) (h : wordK k = true) (hs : nm.size ≤ 4611686018427387904) (w : World) (hcs : TabsAny w) :
    Calls Tryz.prog 67 #[itA k nm 0 false 0] w (NewLen w (packs nm.data.toList).length) := by
  have HS := Lib.hid (fun W => shape_word ⟨k, nm, 0, false, 0⟩ h W)
  have HC := Lib.hid (fun W (hb : Below w.heap.size w W) => word_cells k nm (by have := of_decide_eq_true h; omega) (by have := of_decide_eq_true h; omega) hs W (hcs.below hb))
  clear h hcs
  go_enter Tryz.func67, Tryz.ntmps67
  go_wp2_with fail
  refine (HS.out _).mono ?_
  rintro e w1 ⟨rfl, hb⟩
  have hb' : Below (w.heap.size + 1) (w.alloc (.cells #[.int .i64 k, .string nm, .int .i32 0, .bool false, .int .u32 0] 38)) w1 := hb.mono (by simp)
  have HBX := Lib.hid hb'
  have HB := Lib.hid (((Below.refl w.heap.size w).alloc (Nat.le_refl _) _).trans (hb.mono (by simp)))
  clear hb hb' HS
  go_wp2_with fail
  go_region_held3 (fun w' => w'.cell? ⟨w.heap.size, 0, none⟩ = some (.int .i64 k) ∧ w'.cell? ⟨w.heap.size, 1, none⟩ = some (.string nm) ∧ w'.cell? ⟨w.heap.size, 2, none⟩ = some (.int .i32 0) ∧ w'.cell? ⟨w.heap.size, 3, none⟩ = some (.bool false) ∧ w'.cell? ⟨w.heap.size, 4, none⟩ = some (.int .u32 0)) (first | exact it_box HBX.out.drew | go_keep | exact it_keep HBX.out hb2) (first | (go_at_call 190; refine (word_item k nm _).mono ?_; rintro e w2 ⟨rfl, hb2⟩))
  have HB2 := Lib.hid (HB.out.drew.trans (hb2.mono HB.out.size))
  clear hb2
  go_wp2_with fail
  refine (HC.out _ HB2.out).mono ?_
  rintro e w3 ⟨v, zs, rfl, hl, hz, hown, hb3⟩
  have HE := Lib.hid (show NewLen w (packs nm.data.toList).length (.returned v) w3 from ⟨v, zs, rfl, hl, hz, own_base hown HB2.out.size, HB2.out.trans (hb3.mono HB2.out.size)⟩)
  clear hl hz hown hb3
  go_wp2_with fail
  go_ret
  exact HE.out

set_option maxHeartbeats 2000000 in
theorem cellsof_word_no (k : Int) (nm : ByteArray) (n : Int) (x : Bool) (r : Nat) (h : wordK k = true) (hne : (⟨k, nm, 0, false, 0⟩ : It) ≠ ⟨k, nm, n, x, r⟩) (w : World) :
    Calls Tryz.prog 67 #[itA k nm n x (r : Int)] w (NewLen w 0) := by
  have HS := Lib.hid (fun W => shape_word ⟨k, nm, n, x, r⟩ h W)
  have hq : ∀ W : World, (binOp .neq 38 (itA k nm 0 false 0) (itA k nm n x (r : Int))).run Tryz.prog W = .ok (.bool true) W := fun W => by
    have h := item_neq W (⟨k, nm, 0, false, 0⟩) ⟨k, nm, n, x, r⟩
    rw [decide_eq_false hne] at h
    exact h
  clear hne
  clear h
  go_enter Tryz.func67, Tryz.ntmps67
  go_wp2_with fail
  refine (HS.out _).mono ?_
  rintro e w1 ⟨rfl, hb⟩
  have hb' : Below (w.heap.size + 1) (w.alloc (.cells #[.int .i64 k, .string nm, .int .i32 n, .bool x, .int .u32 (r : Int)] 38)) w1 := hb.mono (by simp)
  have HBX := Lib.hid hb'
  have HB := Lib.hid (((Below.refl w.heap.size w).alloc (Nat.le_refl _) _).trans (hb.mono (by simp)))
  clear hb hb' HS
  go_wp2_with fail
  go_region_held3 (fun w' => w'.cell? ⟨w.heap.size, 0, none⟩ = some (.int .i64 k) ∧ w'.cell? ⟨w.heap.size, 1, none⟩ = some (.string nm) ∧ w'.cell? ⟨w.heap.size, 2, none⟩ = some (.int .i32 n) ∧ w'.cell? ⟨w.heap.size, 3, none⟩ = some (.bool x) ∧ w'.cell? ⟨w.heap.size, 4, none⟩ = some (.int .u32 (r : Int))) (first | exact it_box HBX.out.drew | go_keep | exact it_keep HBX.out hb2) (first | (go_at_call 190; refine (word_item k nm _).mono ?_; rintro e w2 ⟨rfl, hb2⟩))
  have HB2 := Lib.hid (HB.out.drew.trans (hb2.mono HB.out.size))
  clear hb2
  go_wp2_with fail
  go_ret
  exact new_none HB2.out

end Go.Proofs.YtogdbfjagnbllaaGreatDoor

namespace Go.Proofs.YtogdbfjagnbllaaGreatDoor
open Go.RowKit Go

set_option maxHeartbeats 2000000 in
theorem cellsof_narrow (k n : Int) (x : Bool) (h : numK k = true) (hn1 : -67108864 ≤ n) (hn2 : n ≤ 67108863) (w : World) (hcs : TabsAny w) :
    Calls Tryz.prog 67 #[itA k ⟨#[]⟩ n x 0] w (NewLen w 1) := by
  have HS := Lib.hid (fun W => shape_num ⟨k, ⟨#[]⟩, n, x, 0⟩ h W)
  have HC := Lib.hid (fun W (hb : Below w.heap.size w W) => number_narrow k n x (by have := of_decide_eq_true h; omega) (by have := of_decide_eq_true h; omega) hn1 hn2 W (hcs.below hb))
  clear h hcs
  go_enter Tryz.func67, Tryz.ntmps67
  go_wp2_with fail
  refine (HS.out _).mono ?_
  rintro e w1 ⟨rfl, hb⟩
  have hb' : Below (w.heap.size + 1) (w.alloc (.cells #[.int .i64 k, .string ⟨#[]⟩, .int .i32 n, .bool x, .int .u32 0] 38)) w1 := hb.mono (by simp)
  have HBX := Lib.hid hb'
  have HB := Lib.hid (((Below.refl w.heap.size w).alloc (Nat.le_refl _) _).trans (hb.mono (by simp)))
  clear hb hb' HS
  go_wp2_with fail
  go_region_held3 (fun w' => w'.cell? ⟨w.heap.size, 0, none⟩ = some (.int .i64 k) ∧ w'.cell? ⟨w.heap.size, 1, none⟩ = some (.string ⟨#[]⟩) ∧ w'.cell? ⟨w.heap.size, 2, none⟩ = some (.int .i32 n) ∧ w'.cell? ⟨w.heap.size, 3, none⟩ = some (.bool x) ∧ w'.cell? ⟨w.heap.size, 4, none⟩ = some (.int .u32 0)) (first | exact it_box HBX.out.drew | go_keep | exact it_keep HBX.out hb2) (first | (go_at_call 193; refine (number_item k n x _).mono ?_; rintro e w2 ⟨rfl, hb2⟩))
  have HB2 := Lib.hid (HB.out.drew.trans (hb2.mono HB.out.size))
  clear hb2
  go_wp2_with fail
  refine (HC.out _ HB2.out).mono ?_
  rintro e w3 ⟨v, zs, rfl, hl, hz, hown, hb3⟩
  have HE := Lib.hid (show NewLen w 1 (.returned v) w3 from ⟨v, zs, rfl, hl, hz, own_base hown HB2.out.size, HB2.out.trans (hb3.mono HB2.out.size)⟩)
  clear hl hz hown hb3
  go_wp2_with fail
  go_ret
  exact HE.out

set_option maxHeartbeats 2000000 in
theorem cellsof_wide (k n : Int) (x : Bool) (h : numK k = true) (hn : n < -67108864 ∨ 67108863 < n) (w : World) (hcs : TabsAny w) :
    Calls Tryz.prog 67 #[itA k ⟨#[]⟩ n x 0] w (NewLen w 2) := by
  have HS := Lib.hid (fun W => shape_num ⟨k, ⟨#[]⟩, n, x, 0⟩ h W)
  have HC := Lib.hid (fun W (hb : Below w.heap.size w W) => (fun (_ : TabsAny W) => number_wide k n x hn W) (hcs.below hb))
  clear h hcs
  go_enter Tryz.func67, Tryz.ntmps67
  go_wp2_with fail
  refine (HS.out _).mono ?_
  rintro e w1 ⟨rfl, hb⟩
  have hb' : Below (w.heap.size + 1) (w.alloc (.cells #[.int .i64 k, .string ⟨#[]⟩, .int .i32 n, .bool x, .int .u32 0] 38)) w1 := hb.mono (by simp)
  have HBX := Lib.hid hb'
  have HB := Lib.hid (((Below.refl w.heap.size w).alloc (Nat.le_refl _) _).trans (hb.mono (by simp)))
  clear hb hb' HS
  go_wp2_with fail
  go_region_held3 (fun w' => w'.cell? ⟨w.heap.size, 0, none⟩ = some (.int .i64 k) ∧ w'.cell? ⟨w.heap.size, 1, none⟩ = some (.string ⟨#[]⟩) ∧ w'.cell? ⟨w.heap.size, 2, none⟩ = some (.int .i32 n) ∧ w'.cell? ⟨w.heap.size, 3, none⟩ = some (.bool x) ∧ w'.cell? ⟨w.heap.size, 4, none⟩ = some (.int .u32 0)) (first | exact it_box HBX.out.drew | go_keep | exact it_keep HBX.out hb2) (first | (go_at_call 193; refine (number_item k n x _).mono ?_; rintro e w2 ⟨rfl, hb2⟩))
  have HB2 := Lib.hid (HB.out.drew.trans (hb2.mono HB.out.size))
  clear hb2
  go_wp2_with fail
  refine (HC.out _ HB2.out).mono ?_
  rintro e w3 ⟨v, zs, rfl, hl, hz, hown, hb3⟩
  have HE := Lib.hid (show NewLen w 2 (.returned v) w3 from ⟨v, zs, rfl, hl, hz, own_base hown HB2.out.size, HB2.out.trans (hb3.mono HB2.out.size)⟩)
  clear hl hz hown hb3
  go_wp2_with fail
  go_ret
  exact HE.out

set_option maxHeartbeats 2000000 in
theorem cellsof_num_no (k : Int) (nm : ByteArray) (n : Int) (x : Bool) (r : Nat) (h : numK k = true) (hne : (⟨k, ⟨#[]⟩, n, x, 0⟩ : It) ≠ ⟨k, nm, n, x, r⟩) (w : World) :
    Calls Tryz.prog 67 #[itA k nm n x (r : Int)] w (NewLen w 0) := by
  have HS := Lib.hid (fun W => shape_num ⟨k, nm, n, x, r⟩ h W)
  have hq : ∀ W : World, (binOp .neq 38 (itA k ⟨#[]⟩ n x 0) (itA k nm n x (r : Int))).run Tryz.prog W = .ok (.bool true) W := fun W => by
    have h := item_neq W (⟨k, ⟨#[]⟩, n, x, 0⟩) ⟨k, nm, n, x, r⟩
    rw [decide_eq_false hne] at h
    exact h
  clear hne
  clear h
  go_enter Tryz.func67, Tryz.ntmps67
  go_wp2_with fail
  refine (HS.out _).mono ?_
  rintro e w1 ⟨rfl, hb⟩
  have hb' : Below (w.heap.size + 1) (w.alloc (.cells #[.int .i64 k, .string nm, .int .i32 n, .bool x, .int .u32 (r : Int)] 38)) w1 := hb.mono (by simp)
  have HBX := Lib.hid hb'
  have HB := Lib.hid (((Below.refl w.heap.size w).alloc (Nat.le_refl _) _).trans (hb.mono (by simp)))
  clear hb hb' HS
  go_wp2_with fail
  go_region_held3 (fun w' => w'.cell? ⟨w.heap.size, 0, none⟩ = some (.int .i64 k) ∧ w'.cell? ⟨w.heap.size, 1, none⟩ = some (.string nm) ∧ w'.cell? ⟨w.heap.size, 2, none⟩ = some (.int .i32 n) ∧ w'.cell? ⟨w.heap.size, 3, none⟩ = some (.bool x) ∧ w'.cell? ⟨w.heap.size, 4, none⟩ = some (.int .u32 (r : Int))) (first | exact it_box HBX.out.drew | go_keep | exact it_keep HBX.out hb2) (first | (go_at_call 193; refine (number_item k n x _).mono ?_; rintro e w2 ⟨rfl, hb2⟩))
  have HB2 := Lib.hid (HB.out.drew.trans (hb2.mono HB.out.size))
  clear hb2
  go_wp2_with fail
  go_ret
  exact new_none HB2.out

end Go.Proofs.YtogdbfjagnbllaaGreatDoor

namespace Go.Proofs.YtogdbfjagnbllaaGreatDoor
open Go.RowKit Go

set_option maxHeartbeats 2000000 in
theorem cellsof_var_yes (k : Int) (nm : ByteArray) (n : Int) (h : k = 9) (hs : nm.size ≤ 4611686018427387904) (m : Nat) (hm : (if (packs nm.data.toList).length = 1 then 2 else 0) = m) (w : World) (hcs : TabsAny w) :
    Calls Tryz.prog 67 #[itA k nm n false 0] w (NewLen w m) := by
  have HS := Lib.hid (fun W => shape_var ⟨k, nm, n, false, 0⟩ h W)
  have HC := Lib.hid (fun W (hb : Below w.heap.size w W) => hm ▸ variable_cells k n nm (by omega) (by omega) hs W (hcs.below hb))
  clear h hcs hm
  go_enter Tryz.func67, Tryz.ntmps67
  go_wp2_with fail
  refine (HS.out _).mono ?_
  rintro e w1 ⟨rfl, hb⟩
  have hb' : Below (w.heap.size + 1) (w.alloc (.cells #[.int .i64 k, .string nm, .int .i32 n, .bool false, .int .u32 0] 38)) w1 := hb.mono (by simp)
  have HBX := Lib.hid hb'
  have HB := Lib.hid (((Below.refl w.heap.size w).alloc (Nat.le_refl _) _).trans (hb.mono (by simp)))
  clear hb hb' HS
  go_wp2_with fail
  go_region_held3 (fun w' => w'.cell? ⟨w.heap.size, 0, none⟩ = some (.int .i64 k) ∧ w'.cell? ⟨w.heap.size, 1, none⟩ = some (.string nm) ∧ w'.cell? ⟨w.heap.size, 2, none⟩ = some (.int .i32 n) ∧ w'.cell? ⟨w.heap.size, 3, none⟩ = some (.bool false) ∧ w'.cell? ⟨w.heap.size, 4, none⟩ = some (.int .u32 0)) (first | exact it_box HBX.out.drew | go_keep | exact it_keep HBX.out hb2) (first | (go_at_call 196; refine (variable_item k n nm _).mono ?_; rintro e w2 ⟨rfl, hb2⟩))
  have HB2 := Lib.hid (HB.out.drew.trans (hb2.mono HB.out.size))
  clear hb2
  go_wp2_with fail
  refine (HC.out _ HB2.out).mono ?_
  rintro e w3 ⟨v, zs, rfl, hl, hz, hown, hb3⟩
  have HE := Lib.hid (show NewLen w m (.returned v) w3 from ⟨v, zs, rfl, hl, hz, own_base hown HB2.out.size, HB2.out.trans (hb3.mono HB2.out.size)⟩)
  clear hl hz hown hb3
  go_wp2_with fail
  go_ret
  exact HE.out

set_option maxHeartbeats 2000000 in
theorem cellsof_var_no (k : Int) (nm : ByteArray) (n : Int) (x : Bool) (r : Nat) (h : k = 9) (hne : (⟨k, nm, n, false, 0⟩ : It) ≠ ⟨k, nm, n, x, r⟩) (w : World) :
    Calls Tryz.prog 67 #[itA k nm n x (r : Int)] w (NewLen w 0) := by
  have HS := Lib.hid (fun W => shape_var ⟨k, nm, n, x, r⟩ h W)
  have hq : ∀ W : World, (binOp .neq 38 (itA k nm n false 0) (itA k nm n x (r : Int))).run Tryz.prog W = .ok (.bool true) W := fun W => by
    have h := item_neq W (⟨k, nm, n, false, 0⟩) ⟨k, nm, n, x, r⟩
    rw [decide_eq_false hne] at h
    exact h
  clear hne
  clear h
  go_enter Tryz.func67, Tryz.ntmps67
  go_wp2_with fail
  refine (HS.out _).mono ?_
  rintro e w1 ⟨rfl, hb⟩
  have hb' : Below (w.heap.size + 1) (w.alloc (.cells #[.int .i64 k, .string nm, .int .i32 n, .bool x, .int .u32 (r : Int)] 38)) w1 := hb.mono (by simp)
  have HBX := Lib.hid hb'
  have HB := Lib.hid (((Below.refl w.heap.size w).alloc (Nat.le_refl _) _).trans (hb.mono (by simp)))
  clear hb hb' HS
  go_wp2_with fail
  go_region_held3 (fun w' => w'.cell? ⟨w.heap.size, 0, none⟩ = some (.int .i64 k) ∧ w'.cell? ⟨w.heap.size, 1, none⟩ = some (.string nm) ∧ w'.cell? ⟨w.heap.size, 2, none⟩ = some (.int .i32 n) ∧ w'.cell? ⟨w.heap.size, 3, none⟩ = some (.bool x) ∧ w'.cell? ⟨w.heap.size, 4, none⟩ = some (.int .u32 (r : Int))) (first | exact it_box HBX.out.drew | go_keep | exact it_keep HBX.out hb2) (first | (go_at_call 196; refine (variable_item k n nm _).mono ?_; rintro e w2 ⟨rfl, hb2⟩))
  have HB2 := Lib.hid (HB.out.drew.trans (hb2.mono HB.out.size))
  clear hb2
  go_wp2_with fail
  go_ret
  exact new_none HB2.out

end Go.Proofs.YtogdbfjagnbllaaGreatDoor

namespace Go.Proofs.YtogdbfjagnbllaaGreatDoor
open Go.RowKit Go

set_option maxHeartbeats 2000000 in
theorem cellsof_raw_yes (r : Nat) (h : r < 4294967296) (w : World) (hcs : TabsAny w) :
    Calls Tryz.prog 67 #[itA 0 ⟨#[]⟩ 0 false (r : Int)] w (NewLen w 1) := by
  have HS := Lib.hid (fun W => shape_raw ⟨0, ⟨#[]⟩, 0, false, r⟩ (by simp) W)
  have HC := Lib.hid (fun W (hb : Below w.heap.size w W) => (fun (_ : TabsAny W) => raw_cells 0 r h W) (hcs.below hb))
  clear h hcs
  go_enter Tryz.func67, Tryz.ntmps67
  go_wp2_with fail
  refine (HS.out _).mono ?_
  rintro e w1 ⟨rfl, hb⟩
  have hb' : Below (w.heap.size + 1) (w.alloc (.cells #[.int .i64 0, .string ⟨#[]⟩, .int .i32 0, .bool false, .int .u32 (r : Int)] 38)) w1 := hb.mono (by simp)
  have HBX := Lib.hid hb'
  have HB := Lib.hid (((Below.refl w.heap.size w).alloc (Nat.le_refl _) _).trans (hb.mono (by simp)))
  clear hb hb' HS
  go_wp2_with fail
  go_region_held3 (fun w' => w'.cell? ⟨w.heap.size, 0, none⟩ = some (.int .i64 0) ∧ w'.cell? ⟨w.heap.size, 1, none⟩ = some (.string ⟨#[]⟩) ∧ w'.cell? ⟨w.heap.size, 2, none⟩ = some (.int .i32 0) ∧ w'.cell? ⟨w.heap.size, 3, none⟩ = some (.bool false) ∧ w'.cell? ⟨w.heap.size, 4, none⟩ = some (.int .u32 (r : Int))) (first | exact it_box HBX.out.drew | go_keep | exact it_keep HBX.out hb2) (first | (go_at_call 198; refine (raw_item 0 (r : Int) _).mono ?_; rintro e w2 ⟨rfl, hb2⟩))
  have HB2 := Lib.hid (HB.out.drew.trans (hb2.mono HB.out.size))
  clear hb2
  go_wp2_with fail
  refine (HC.out _ HB2.out).mono ?_
  rintro e w3 ⟨v, zs, rfl, hl, hz, hown, hb3⟩
  have HE := Lib.hid (show NewLen w 1 (.returned v) w3 from ⟨v, zs, rfl, hl, hz, own_base hown HB2.out.size, HB2.out.trans (hb3.mono HB2.out.size)⟩)
  clear hl hz hown hb3
  go_wp2_with fail
  go_ret
  exact HE.out

set_option maxHeartbeats 2000000 in
theorem cellsof_raw_no (k : Int) (nm : ByteArray) (n : Int) (x : Bool) (r : Nat) (h : ¬ (1 ≤ k ∧ k ≤ 9)) (hne : (⟨0, ⟨#[]⟩, 0, false, r⟩ : It) ≠ ⟨k, nm, n, x, r⟩) (w : World) :
    Calls Tryz.prog 67 #[itA k nm n x (r : Int)] w (NewLen w 0) := by
  have HS := Lib.hid (fun W => shape_raw ⟨k, nm, n, x, r⟩ h W)
  have hq : ∀ W : World, (binOp .neq 38 (itA 0 ⟨#[]⟩ 0 false (r : Int)) (itA k nm n x (r : Int))).run Tryz.prog W = .ok (.bool true) W := fun W => by
    have h := item_neq W (⟨0, ⟨#[]⟩, 0, false, r⟩) ⟨k, nm, n, x, r⟩
    rw [decide_eq_false hne] at h
    exact h
  clear hne
  clear h
  go_enter Tryz.func67, Tryz.ntmps67
  go_wp2_with fail
  refine (HS.out _).mono ?_
  rintro e w1 ⟨rfl, hb⟩
  have hb' : Below (w.heap.size + 1) (w.alloc (.cells #[.int .i64 k, .string nm, .int .i32 n, .bool x, .int .u32 (r : Int)] 38)) w1 := hb.mono (by simp)
  have HBX := Lib.hid hb'
  have HB := Lib.hid (((Below.refl w.heap.size w).alloc (Nat.le_refl _) _).trans (hb.mono (by simp)))
  clear hb hb' HS
  go_wp2_with fail
  go_region_held3 (fun w' => w'.cell? ⟨w.heap.size, 0, none⟩ = some (.int .i64 k) ∧ w'.cell? ⟨w.heap.size, 1, none⟩ = some (.string nm) ∧ w'.cell? ⟨w.heap.size, 2, none⟩ = some (.int .i32 n) ∧ w'.cell? ⟨w.heap.size, 3, none⟩ = some (.bool x) ∧ w'.cell? ⟨w.heap.size, 4, none⟩ = some (.int .u32 (r : Int))) (first | exact it_box HBX.out.drew | go_keep | exact it_keep HBX.out hb2) (first | (go_at_call 198; refine (raw_item 0 (r : Int) _).mono ?_; rintro e w2 ⟨rfl, hb2⟩))
  have HB2 := Lib.hid (HB.out.drew.trans (hb2.mono HB.out.size))
  clear hb2
  go_wp2_with fail
  go_ret
  exact new_none HB2.out

end Go.Proofs.YtogdbfjagnbllaaGreatDoor

namespace Go.Proofs.YtogdbfjagnbllaaGreatDoor
open Go.RowKit Go

theorem varCells_count (l : List Nat) (n : Int) : (varCells l n).length = if l.length = 1 then 2 else 0 := by
  match l with
  | [] => rfl
  | [f] => rfl
  | _ :: _ :: _ => simp [varCells]
theorem impl_cellsof (it : It) (hin : ItIn it) (w : World) (hcs : TabsAny w) : Calls Tryz.prog 67 #[itVal it] w (NewLen w (cellsOf it).length) := by
  have hin2 := hin
  obtain ⟨k, nm, n, x, r⟩ := it
  obtain ⟨-, -, -, -, hr, hs⟩ := hin2
  by_cases hw : 1 ≤ k ∧ k ≤ 6
  · rw [cells_words (it := ⟨k, nm, n, x, r⟩) hw]
    have hw2 : wordK k = true := decide_eq_true hw
    split
    · rename_i h
      obtain ⟨h1, h2, h3⟩ : n = 0 ∧ x = false ∧ r = 0 := h
      subst h1 h2 h3
      rw [wordCells_len]
      exact cellsof_word_yes k nm hw2 hs w hcs
    · rename_i h
      exact cellsof_word_no k nm n x r hw2 (fun e => h (by injection e with _ _ e3 e4 e5; exact ⟨e3.symm, e4.symm, e5.symm⟩)) w
  · by_cases hn : k = 7 ∨ k = 8
    · rw [cells_nums (it := ⟨k, nm, n, x, r⟩) hn]
      have hn2 : numK k = true := decide_eq_true (by omega)
      split
      · rename_i h
        obtain ⟨h1, h2⟩ : nm = noText ∧ r = 0 := h
        subst h1 h2
        by_cases hwd : n < -67108864 ∨ 67108863 < n
        · have e : (numCells n x (shortOf k) (longOf k)).length = 2 := by unfold numCells; rw [if_pos (show wideN n = true from decide_eq_true hwd)]; rfl
          show Calls _ _ _ _ (NewLen w (numCells n x (shortOf k) (longOf k)).length)
          rw [e]
          exact cellsof_wide k n x hn2 hwd w hcs
        · have e : (numCells n x (shortOf k) (longOf k)).length = 1 := by unfold numCells; rw [if_neg (by rw [show wideN n = false from decide_eq_false hwd]; decide)]; rfl
          show Calls _ _ _ _ (NewLen w (numCells n x (shortOf k) (longOf k)).length)
          rw [e]
          exact cellsof_narrow k n x hn2 (by omega) (by omega) w hcs
      · rename_i h
        exact cellsof_num_no k nm n x r hn2 (fun e => h (by injection e with _ e2 _ _ e5; exact ⟨e2.symm, e5.symm⟩)) w
    · by_cases h9 : k = 9
      · have e : cellsOf ⟨k, nm, n, x, r⟩ = if x = false ∧ r = 0 then varCells (packs nm.data.toList) n else [] := by
          unfold cellsOf
          rw [if_neg (by show ¬ k = 0; omega), if_neg (by show ¬ (k = 7 ∨ k = 8); omega), if_pos h9]
        rw [e]
        split
        · rename_i h
          obtain ⟨h1, h2⟩ := h
          subst h1 h2
          exact cellsof_var_yes k nm n h9 hs _ (varCells_count _ _).symm w hcs
        · rename_i h
          exact cellsof_var_no k nm n x r h9 (fun e => h (by injection e with _ _ _ e4 e5; exact ⟨e4.symm, e5.symm⟩)) w
      · by_cases h0 : k = 0 ∧ nm = noText ∧ n = 0 ∧ x = false
        · obtain ⟨h1, h2, h3, h4⟩ := h0
          subst h1 h2 h3 h4
          have e : (cellsOf ⟨0, noText, 0, false, r⟩).length = 1 := rfl
          rw [e]
          exact cellsof_raw_yes r hr w hcs
        · have e : cellsOf ⟨k, nm, n, x, r⟩ = [] := by
            unfold cellsOf
            by_cases hk : k = 0
            · rw [if_pos hk, if_neg (fun h => h0 ⟨hk, h.1, h.2.1, h.2.2⟩)]
            · rw [if_neg hk, if_neg hn, if_neg h9, if_neg hw]
          rw [e]
          exact cellsof_raw_no k nm n x r (by omega) (fun e => h0 (by injection e with e1 e2 e3 e4 _; exact ⟨e1.symm, e2.symm, e3.symm, e4.symm⟩)) w
theorem impl_itemok (it : It) (hin : ItIn it) (w : World) (hcs : TabsAny w) : Calls Tryz.prog 52 #[itVal it] w fun e w' => e = .returned (.bool (decide (cellsOf it ≠ []))) ∧ Below w.heap.size w w' := by
  have HC := Lib.hid (fun W (hb : Below w.heap.size w W) => impl_cellsof it hin W (hcs.below hb))
  obtain ⟨k, nm, n, x, r⟩ := it
  have hd : decide (cellsOf ⟨k, nm, n, x, r⟩ ≠ []) = decide (0 < (cellsOf ⟨k, nm, n, x, r⟩).length) := decide_eq_decide.2 List.length_pos_iff.symm
  rw [hd]
  obtain ⟨m, hm⟩ : ∃ m, (cellsOf ⟨k, nm, n, x, r⟩).length = m := ⟨_, rfl⟩
  rw [hm] at HC ⊢
  clear hm hd hcs hin
  by_cases h0 : 0 < m
  · have e : decide (0 < m) = true := decide_eq_true h0
    rw [e]
    clear e
    go_enter Tryz.func52, Tryz.ntmps52
    go_wp2_with fail
    refine (HC.out _ ((Below.refl _ _).alloc (Nat.le_refl _) _)).mono ?_
    rintro e w1 ⟨v, zs, rfl, hl, -, hown, hb⟩
    obtain ⟨A, cap, rfl⟩ := own_slice hown
    have HB := Lib.hid (((Below.refl w.heap.size w).alloc (Nat.le_refl _) _).trans (hb.mono (by simp)))
    subst hl
    clear hown hb HC
    go_wp2_with fail
    go_ret
    exact ⟨rfl, HB.out⟩
  · have e : decide (0 < m) = false := decide_eq_false h0
    rw [e]
    obtain rfl : m = 0 := by omega
    clear e h0
    go_enter Tryz.func52, Tryz.ntmps52
    go_wp2_with fail
    refine (HC.out _ ((Below.refl _ _).alloc (Nat.le_refl _) _)).mono ?_
    rintro e w1 ⟨v, zs, rfl, hl, -, hown, hb⟩
    obtain ⟨A, cap, rfl⟩ := own_slice hown
    rw [hl]
    have HB := Lib.hid (((Below.refl w.heap.size w).alloc (Nat.le_refl _) _).trans (hb.mono (by simp)))
    clear hown hb HC hl
    go_wp2_with fail
    go_ret
    exact ⟨rfl, HB.out⟩
end Go.Proofs.YtogdbfjagnbllaaGreatDoor

namespace Go.Proofs.YtogdbfjagnbllaaGreatDoor
open Go.RowKit Go

theorem txt_ne {nm : ByteArray} (h : ¬ nm = noText) : nm.toList.isEmpty = false := by
  rw [ByteArray.toList_eq]
  cases hq : nm.data.toList with
  | nil =>
    refine absurd ?_ h
    obtain ⟨⟨l⟩⟩ := nm
    simp at hq
    rw [hq]
    rfl
  | cons a b => rfl
theorem int_ne {n : Int} (h : ¬ n = 0) : (n == 0) = false := by simpa using h
theorem nat_ne {r : Nat} (h : ¬ r = 0) : ((r : Int) == 0) = false := by simp; exact h
theorem spec_num (n : Int) (x : Bool) (s l : Nat) (w : World) : Calls Tryz.prog 84 #[.int .i32 n, .bool x, .int .u32 s, .int .u32 l] w (NewLen w (numCells n x s l).length) := by
  unfold numCells
  by_cases h : n < -67108864 ∨ 67108863 < n
  · rw [if_pos (show wideN n = true from decide_eq_true h)]
    exact spec_wide n x s l h w
  · rw [if_neg (by rw [show wideN n = false from decide_eq_false h]; decide)]
    exact spec_narrow n x s l (by omega) (by omega) w
theorem four (n : Int) (x : Bool) (r : Nat) : ¬ n = 0 ∨ (n = 0 ∧ x = true) ∨ (n = 0 ∧ x = false ∧ ¬ r = 0) ∨ (n = 0 ∧ x = false ∧ r = 0) := by
  by_cases h : n = 0
  · cases x with
    | true => exact .inr (.inl ⟨h, rfl⟩)
    | false =>
      by_cases hr : r = 0
      · exact .inr (.inr (.inr ⟨h, rfl, hr⟩))
      · exact .inr (.inr (.inl ⟨h, rfl, hr⟩))
  · exact .inl h
theorem spec_cells_raw (nm : ByteArray) (n : Int) (x : Bool) (r : Nat) (hr4 : r < 4294967296) (w : World) : Calls Tryz.prog 57 #[itA 0 nm n x (r : Int)] w (NewLen w (cellsOf ⟨0, nm, n, x, r⟩).length) := by
  rcases four n x r with hn | ⟨rfl, rfl⟩ | ⟨rfl, rfl, hr⟩ | ⟨rfl, rfl, rfl⟩ <;> by_cases hm : nm = noText
  · subst hm
    rw [show (cellsOf ⟨0, noText, n, x, r⟩).length = 0 by simp [cellsOf, hn]]
    exact sc_raw_NVVE n (int_ne hn) x r w
  · rw [show (cellsOf ⟨0, nm, n, x, r⟩).length = 0 by simp [cellsOf, hn]]
    exact sc_raw_NVVN nm (txt_ne hm) n (int_ne hn) x r w
  · subst hm
    exact sc_raw_ZTVE r w
  · rw [show (cellsOf ⟨0, nm, 0, true, r⟩).length = 0 by simp [cellsOf]]
    exact sc_raw_ZTVN nm (txt_ne hm) r w
  · subst hm
    rw [show (cellsOf ⟨0, noText, 0, false, r⟩).length = 1 by simp [cellsOf]]
    exact sc_raw_ZFNE r (nat_ne hr) hr4 w
  · rw [show (cellsOf ⟨0, nm, 0, false, r⟩).length = 0 by simp [cellsOf, hm]]
    exact sc_raw_ZFNN nm (txt_ne hm) r (nat_ne hr) w
  · subst hm
    exact sc_raw_ZFZE w
  · rw [show (cellsOf ⟨0, nm, 0, false, 0⟩).length = 0 by simp [cellsOf, hm]]
    exact sc_raw_ZFZN nm (txt_ne hm) w
theorem spec_cells_yel (nm : ByteArray) (n : Int) (x : Bool) (r : Nat) (w : World) : Calls Tryz.prog 57 #[itA 7 nm n x (r : Int)] w (NewLen w (cellsOf ⟨7, nm, n, x, r⟩).length) := by
  rw [cells_nums (it := ⟨7, nm, n, x, r⟩) (.inl rfl)]
  have HN := Lib.hid (fun W => spec_num n x 8 2 W)
  by_cases hm : nm = noText
  · subst hm
    by_cases hr0 : r = 0
    · subst hr0
      show Calls _ _ _ _ (NewLen w (numCells n x 8 2).length)
      rcases four n x 0 with hn | ⟨rfl, rfl⟩ | ⟨rfl, rfl, hr⟩ | ⟨rfl, rfl, _⟩
      · exact sc_n7_NVZE n (int_ne hn) x _ HN w
      · exact sc_n7_ZTZE _ HN w
      · exact absurd rfl hr
      · exact sc_n7_ZFZE _ HN w
    · rw [if_neg (fun h => hr0 h.2)]
      rcases four n x r with hn | ⟨rfl, rfl⟩ | ⟨rfl, rfl, hr⟩ | ⟨rfl, rfl, hr⟩
      · exact sc_n7_NVNE n (int_ne hn) x r (nat_ne hr0) w
      · exact sc_n7_ZTNE r (nat_ne hr0) w
      · exact sc_n7_ZFNE r (nat_ne hr0) w
      · exact absurd hr hr0
  · rw [if_neg (fun h => hm h.1)]
    rcases four n x r with hn | ⟨rfl, rfl⟩ | ⟨rfl, rfl, hr⟩ | ⟨rfl, rfl, rfl⟩
    · exact sc_n7_NVVN nm (txt_ne hm) n (int_ne hn) x r w
    · exact sc_n7_ZTVN nm (txt_ne hm) r w
    · exact sc_n7_ZFNN nm (txt_ne hm) r (nat_ne hr) w
    · exact sc_n7_ZFZN nm (txt_ne hm) w
theorem spec_cells_green (nm : ByteArray) (n : Int) (x : Bool) (r : Nat) (w : World) : Calls Tryz.prog 57 #[itA 8 nm n x (r : Int)] w (NewLen w (cellsOf ⟨8, nm, n, x, r⟩).length) := by
  rw [cells_nums (it := ⟨8, nm, n, x, r⟩) (.inr rfl)]
  have HN := Lib.hid (fun W => spec_num n x 6 5 W)
  by_cases hm : nm = noText
  · subst hm
    by_cases hr0 : r = 0
    · subst hr0
      show Calls _ _ _ _ (NewLen w (numCells n x 6 5).length)
      rcases four n x 0 with hn | ⟨rfl, rfl⟩ | ⟨rfl, rfl, hr⟩ | ⟨rfl, rfl, _⟩
      · exact sc_n8_NVZE n (int_ne hn) x _ HN w
      · exact sc_n8_ZTZE _ HN w
      · exact absurd rfl hr
      · exact sc_n8_ZFZE _ HN w
    · rw [if_neg (fun h => hr0 h.2)]
      rcases four n x r with hn | ⟨rfl, rfl⟩ | ⟨rfl, rfl, hr⟩ | ⟨rfl, rfl, hr⟩
      · exact sc_n8_NVNE n (int_ne hn) x r (nat_ne hr0) w
      · exact sc_n8_ZTNE r (nat_ne hr0) w
      · exact sc_n8_ZFNE r (nat_ne hr0) w
      · exact absurd hr hr0
  · rw [if_neg (fun h => hm h.1)]
    rcases four n x r with hn | ⟨rfl, rfl⟩ | ⟨rfl, rfl, hr⟩ | ⟨rfl, rfl, rfl⟩
    · exact sc_n8_NVVN nm (txt_ne hm) n (int_ne hn) x r w
    · exact sc_n8_ZTVN nm (txt_ne hm) r w
    · exact sc_n8_ZFNN nm (txt_ne hm) r (nat_ne hr) w
    · exact sc_n8_ZFZN nm (txt_ne hm) w
theorem spec_cells_var (nm : ByteArray) (n : Int) (x : Bool) (r : Nat) (hs : nm.size ≤ 4611686018427387904) (w : World) : Calls Tryz.prog 57 #[itA 9 nm n x (r : Int)] w (NewLen w (cellsOf ⟨9, nm, n, x, r⟩).length) := by
  have HW := Lib.hid (fun W => spec_word 12 nm hs W)
  have e : cellsOf ⟨9, nm, n, x, r⟩ = if x = false ∧ r = 0 then varCells (packs nm.data.toList) n else [] := rfl
  rw [e]
  obtain ⟨m, hm⟩ : ∃ m, (packs nm.data.toList).length = m := ⟨_, rfl⟩
  by_cases h1 : m = 1
  · by_cases hy : x = false ∧ r = 0
    · rw [if_pos hy, varCells_count, if_pos (by omega)]
      obtain ⟨rfl, rfl⟩ := hy
      rw [hm] at HW
      by_cases hn : n = 0
      · subst hn
        exact sc_var_ZFZ nm m h1 HW w
      · exact sc_var_NFZ nm n (int_ne hn) m h1 HW w
    · rw [if_neg hy]
      rw [hm] at HW
      rcases four n x r with hn | ⟨rfl, rfl⟩ | ⟨rfl, rfl, hr⟩ | ⟨rfl, rfl, hr⟩
      · cases x with
        | true => exact sc_var_NTV nm n (int_ne hn) r m h1 HW w
        | false => exact sc_var_NFN nm n (int_ne hn) r (nat_ne fun h => hy ⟨rfl, h⟩) m h1 HW w
      · exact sc_var_ZTV nm r m h1 HW w
      · exact sc_var_ZFN nm r (nat_ne hr) m h1 HW w
      · exact absurd ⟨rfl, hr⟩ hy
  · have e0 : (if x = false ∧ r = 0 then varCells (packs nm.data.toList) n else []).length = 0 := by
      split
      · rw [varCells_count, if_neg (by omega)]
      · rfl
    rw [e0]
    rw [hm] at HW
    rcases four n x r with hn | ⟨rfl, rfl⟩ | ⟨rfl, rfl, hr⟩ | ⟨rfl, rfl, rfl⟩
    · exact sc_vno_NVV nm n (int_ne hn) x r m h1 HW w
    · exact sc_vno_ZTV nm r m h1 HW w
    · exact sc_vno_ZFN nm r (nat_ne hr) m h1 HW w
    · exact sc_vno_ZFZ nm m h1 HW w
theorem spec_cellsof (it : It) (hin : ItIn it) (w : World) : Calls Tryz.prog 57 #[itVal it] w (NewLen w (cellsOf it).length) := by
  have hin2 := hin
  obtain ⟨k, nm, n, x, r⟩ := it
  obtain ⟨-, -, -, -, hr4, hs⟩ := hin2
  by_cases h0 : k = 0
  · subst h0; exact spec_cells_raw nm n x r hr4 w
  by_cases h7 : k = 7
  · subst h7; exact spec_cells_yel nm n x r w
  by_cases h8 : k = 8
  · subst h8; exact spec_cells_green nm n x r w
  by_cases h9 : k = 9
  · subst h9; exact spec_cells_var nm n x r hs w
  by_cases hw : 1 ≤ k ∧ k ≤ 6
  · rw [cells_words (it := ⟨k, nm, n, x, r⟩) hw]
    have hw2 : wordK k = true := decide_eq_true hw
    rcases four n x r with hn | ⟨rfl, rfl⟩ | ⟨rfl, rfl, hr⟩ | ⟨rfl, rfl, rfl⟩
    · rw [if_neg (fun h => hn h.1)]
      exact sc_word_NVV k hw2 nm n (int_ne hn) x r w
    · rw [if_neg (fun h => Bool.noConfusion (h.2.1 : true = false))]
      exact sc_word_ZTV k hw2 nm r w
    · rw [if_neg (fun h => hr h.2.2)]
      exact sc_word_ZFN k hw2 nm r (nat_ne hr) w
    · rw [if_pos ⟨rfl, rfl, rfl⟩, wordCells_len]
      exact sc_word_ZFZ k hw2 nm hs w
  · have e : cellsOf ⟨k, nm, n, x, r⟩ = [] := by
      unfold cellsOf
      rw [if_neg h0, if_neg (by show ¬ (k = 7 ∨ k = 8); omega), if_neg h9, if_neg hw]
    rw [e]
    have hk : ¬ (0 ≤ k ∧ k ≤ 9) := by omega
    rcases four n x r with hn | ⟨rfl, rfl⟩ | ⟨rfl, rfl, hr⟩ | ⟨rfl, rfl, rfl⟩
    · exact sc_else_NVV k hk nm n (int_ne hn) x r w
    · exact sc_else_ZTV k hk nm r w
    · exact sc_else_ZFN k hk nm r (nat_ne hr) w
    · exact sc_else_ZFZ k hk nm w
theorem spec_itemok (it : It) (hin : ItIn it) (w : World) : Calls Tryz.prog 21 #[itVal it] w fun e w' => e = .returned (.bool (decide (cellsOf it ≠ []))) ∧ Below w.heap.size w w' := by
  have HC := Lib.hid (fun W => spec_cellsof it hin W)
  obtain ⟨k, nm, n, x, r⟩ := it
  have hd : decide (cellsOf ⟨k, nm, n, x, r⟩ ≠ []) = decide (0 < (cellsOf ⟨k, nm, n, x, r⟩).length) := decide_eq_decide.2 List.length_pos_iff.symm
  rw [hd]
  obtain ⟨m, hm⟩ : ∃ m, (cellsOf ⟨k, nm, n, x, r⟩).length = m := ⟨_, rfl⟩
  rw [hm] at HC ⊢
  clear hm hd hin
  by_cases h0 : 0 < m
  · have e : decide (0 < m) = true := decide_eq_true h0
    rw [e]
    clear e
    go_enter Tryz.func21, Tryz.ntmps21
    go_wp2_with fail
    refine (HC.out _).mono ?_
    rintro e w1 ⟨v, zs, rfl, hl, -, hown, hb⟩
    obtain ⟨A, cap, rfl⟩ := own_slice hown
    have HB := Lib.hid (((Below.refl w.heap.size w).alloc (Nat.le_refl _) _).trans (hb.mono (by simp)))
    subst hl
    clear hown hb HC
    go_wp2_with fail
    go_ret
    exact ⟨rfl, HB.out⟩
  · have e : decide (0 < m) = false := decide_eq_false h0
    rw [e]
    obtain rfl : m = 0 := by omega
    clear e h0
    go_enter Tryz.func21, Tryz.ntmps21
    go_wp2_with fail
    refine (HC.out _).mono ?_
    rintro e w1 ⟨v, zs, rfl, hl, -, hown, hb⟩
    obtain ⟨A, cap, rfl⟩ := own_slice hown
    rw [hl]
    have HB := Lib.hid (((Below.refl w.heap.size w).alloc (Nat.le_refl _) _).trans (hb.mono (by simp)))
    clear hown hb HC hl
    go_wp2_with fail
    go_ret
    exact ⟨rfl, HB.out⟩
end Go.Proofs.YtogdbfjagnbllaaGreatDoor

namespace Go.Proofs.YtogdbfjagnbllaaGreatDoor
open Go.RowKit Go

end Go.Proofs.YtogdbfjagnbllaaGreatDoor

namespace Go.Proofs.YtogdbfjagnbllaaGreatDoor
open Go.RowKit Go

/-- A copy of an item, where its box stands. -/
theorem box_mono {w w1 w2 : World} {o : Obj} (h1 : Below (w.heap.size + 1) (w.alloc o) w1) (h2 : Below w1.heap.size w1 w2) : Below (w.heap.size + 1) (w.alloc o) w2 :=
  h1.trans (h2.mono (by have := h1.size; simpa using this))
theorem box_start (w : World) (o : Obj) : Below (w.heap.size + 1) (w.alloc o) (w.alloc o) := Below.refl _ _
theorem box_below {w w1 : World} {o : Obj} (h : Below (w.heap.size + 1) (w.alloc o) w1) : Below w.heap.size w w1 := ((Below.refl _ _).alloc (Nat.le_refl _) _).trans (h.mono (by omega))

end Go.Proofs.YtogdbfjagnbllaaGreatDoor
