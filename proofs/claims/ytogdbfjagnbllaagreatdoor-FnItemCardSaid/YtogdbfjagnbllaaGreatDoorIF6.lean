/-
  The model's CellsOf at a word, and at no kind: how many cells there are.
  The model's CellsOf at a variable: how many cells there are.
  CellsOf and ItemOk of the model: how many cells an item has.
  Recolor of the model.
  The model's draws of items, of an item and a kind.
  The model's draw of an item for its text.
-/
import Derived.Test.YtogdbfjagnbllaaGreatDoorIF5
import Derived.Handy
import Derived.Test.YtogdbfjagnbllaaGreatDoorIF3
import Derived.Deep.RegionWith
namespace Go.Proofs.YtogdbfjagnbllaaGreatDoor
open Go.RowKit Go

set_option maxHeartbeats 1000000 in
theorem sc_word_NVV (k : Int) (h : wordK k = true) (nm : ByteArray) (n : Int) (hn : (n == 0) = false) (x : Bool) (r : Nat) (w : World) : Calls Tryz.prog 57 #[itA k nm n x (r : Int)] w (NewLen w 0) := by
  have hk := of_decide_eq_true h
  have b0 : (k == 0) = false := by simp; omega
  have b7 : (k == 7) = false := by simp; omega
  have b8 : (k == 8) = false := by simp; omega
  have b9 : (k == 9) = false := by simp; omega
  have HT := Lib.hid (fun W => spec_tag k W)
  have ht : 0 < tagW k := by
    unfold tagW
    (repeat' split) <;> omega
  obtain ⟨t, htt⟩ : ∃ t, tagW k = t := ⟨_, rfl⟩
  rw [htt] at HT ht
  clear h hk htt
  go_enter Tryz.func57, Tryz.ntmps57
  go_wp2_with fail
  refine (HT.out _).mono ?_
  rintro e w' ⟨rfl, rfl⟩
  go_wp2_with fail
  go_ret
  exact new_emp (by simp) (by go_grown)

set_option maxHeartbeats 1000000 in
theorem sc_word_ZTV (k : Int) (h : wordK k = true) (nm : ByteArray) (r : Nat) (w : World) : Calls Tryz.prog 57 #[itA k nm 0 true (r : Int)] w (NewLen w 0) := by
  have hk := of_decide_eq_true h
  have b0 : (k == 0) = false := by simp; omega
  have b7 : (k == 7) = false := by simp; omega
  have b8 : (k == 8) = false := by simp; omega
  have b9 : (k == 9) = false := by simp; omega
  have HT := Lib.hid (fun W => spec_tag k W)
  have ht : 0 < tagW k := by
    unfold tagW
    (repeat' split) <;> omega
  obtain ⟨t, htt⟩ : ∃ t, tagW k = t := ⟨_, rfl⟩
  rw [htt] at HT ht
  clear h hk htt
  go_enter Tryz.func57, Tryz.ntmps57
  go_wp2_with fail
  refine (HT.out _).mono ?_
  rintro e w' ⟨rfl, rfl⟩
  go_wp2_with fail
  go_ret
  exact new_emp (by simp) (by go_grown)

set_option maxHeartbeats 1000000 in
theorem sc_word_ZFN (k : Int) (h : wordK k = true) (nm : ByteArray) (r : Nat) (hr : ((r : Int) == 0) = false) (w : World) : Calls Tryz.prog 57 #[itA k nm 0 false (r : Int)] w (NewLen w 0) := by
  have hk := of_decide_eq_true h
  have b0 : (k == 0) = false := by simp; omega
  have b7 : (k == 7) = false := by simp; omega
  have b8 : (k == 8) = false := by simp; omega
  have b9 : (k == 9) = false := by simp; omega
  have HT := Lib.hid (fun W => spec_tag k W)
  have ht : 0 < tagW k := by
    unfold tagW
    (repeat' split) <;> omega
  obtain ⟨t, htt⟩ : ∃ t, tagW k = t := ⟨_, rfl⟩
  rw [htt] at HT ht
  clear h hk htt
  go_enter Tryz.func57, Tryz.ntmps57
  go_wp2_with fail
  refine (HT.out _).mono ?_
  rintro e w' ⟨rfl, rfl⟩
  go_wp2_with fail
  go_ret
  exact new_emp (by simp) (by go_grown)

set_option maxHeartbeats 1000000 in
theorem sc_word_ZFZ (k : Int) (h : wordK k = true) (nm : ByteArray) (hs : nm.size ≤ 4611686018427387904) (w : World) : Calls Tryz.prog 57 #[itA k nm 0 false 0] w (NewLen w (packs nm.data.toList).length) := by
  have hk := of_decide_eq_true h
  have b0 : (k == 0) = false := by simp; omega
  have b7 : (k == 7) = false := by simp; omega
  have b8 : (k == 8) = false := by simp; omega
  have b9 : (k == 9) = false := by simp; omega
  have HT := Lib.hid (fun W => spec_tag k W)
  have ht : 0 < tagW k := by
    unfold tagW
    (repeat' split) <;> omega
  have HWD := Lib.hid (fun t W => spec_word t nm hs W)
  clear hs
  obtain ⟨t, htt⟩ : ∃ t, tagW k = t := ⟨_, rfl⟩
  rw [htt] at HT ht
  clear h hk htt
  go_enter Tryz.func57, Tryz.ntmps57
  go_wp2_with fail
  refine (HT.out _).mono ?_
  rintro e w' ⟨rfl, rfl⟩
  go_wp2_with fail
  refine (HWD.out _ _).mono ?_
  rintro e w3 ⟨v, zs, rfl, hl, hz, hown, hb3⟩
  have HE := Lib.hid (show NewLen w (packs nm.data.toList).length (.returned v) w3 from ⟨v, zs, rfl, hl, hz, own_base hown (by simp), (((Below.refl w.heap.size w).alloc (Nat.le_refl _) _).trans (hb3.mono (by simp)))⟩)
  clear hl hz hown hb3
  go_wp2_with fail
  go_ret
  exact HE.out

set_option maxHeartbeats 1000000 in
theorem sc_else_NVV (k : Int) (h : ¬ (0 ≤ k ∧ k ≤ 9)) (nm : ByteArray) (n : Int) (hn : (n == 0) = false) (x : Bool) (r : Nat) (w : World) : Calls Tryz.prog 57 #[itA k nm n x (r : Int)] w (NewLen w 0) := by
  have b0 : (k == 0) = false := by simp; omega
  have b7 : (k == 7) = false := by simp; omega
  have b8 : (k == 8) = false := by simp; omega
  have b9 : (k == 9) = false := by simp; omega
  have ht : tagW k = 0 := by unfold tagW; rw [if_neg (by omega), if_neg (by omega), if_neg (by omega), if_neg (by omega), if_neg (by omega), if_neg (by omega)]
  have HT := Lib.hid (fun W => spec_tag k W)
  rw [ht] at HT
  clear h ht
  go_enter Tryz.func57, Tryz.ntmps57
  go_wp2_with fail
  refine (HT.out _).mono ?_
  rintro e w' ⟨rfl, rfl⟩
  go_wp2_with fail
  go_ret
  exact new_emp (by simp) (by go_grown)

set_option maxHeartbeats 1000000 in
theorem sc_else_ZTV (k : Int) (h : ¬ (0 ≤ k ∧ k ≤ 9)) (nm : ByteArray) (r : Nat) (w : World) : Calls Tryz.prog 57 #[itA k nm 0 true (r : Int)] w (NewLen w 0) := by
  have b0 : (k == 0) = false := by simp; omega
  have b7 : (k == 7) = false := by simp; omega
  have b8 : (k == 8) = false := by simp; omega
  have b9 : (k == 9) = false := by simp; omega
  have ht : tagW k = 0 := by unfold tagW; rw [if_neg (by omega), if_neg (by omega), if_neg (by omega), if_neg (by omega), if_neg (by omega), if_neg (by omega)]
  have HT := Lib.hid (fun W => spec_tag k W)
  rw [ht] at HT
  clear h ht
  go_enter Tryz.func57, Tryz.ntmps57
  go_wp2_with fail
  refine (HT.out _).mono ?_
  rintro e w' ⟨rfl, rfl⟩
  go_wp2_with fail
  go_ret
  exact new_emp (by simp) (by go_grown)

set_option maxHeartbeats 1000000 in
theorem sc_else_ZFN (k : Int) (h : ¬ (0 ≤ k ∧ k ≤ 9)) (nm : ByteArray) (r : Nat) (hr : ((r : Int) == 0) = false) (w : World) : Calls Tryz.prog 57 #[itA k nm 0 false (r : Int)] w (NewLen w 0) := by
  have b0 : (k == 0) = false := by simp; omega
  have b7 : (k == 7) = false := by simp; omega
  have b8 : (k == 8) = false := by simp; omega
  have b9 : (k == 9) = false := by simp; omega
  have ht : tagW k = 0 := by unfold tagW; rw [if_neg (by omega), if_neg (by omega), if_neg (by omega), if_neg (by omega), if_neg (by omega), if_neg (by omega)]
  have HT := Lib.hid (fun W => spec_tag k W)
  rw [ht] at HT
  clear h ht
  go_enter Tryz.func57, Tryz.ntmps57
  go_wp2_with fail
  refine (HT.out _).mono ?_
  rintro e w' ⟨rfl, rfl⟩
  go_wp2_with fail
  go_ret
  exact new_emp (by simp) (by go_grown)

set_option maxHeartbeats 1000000 in
theorem sc_else_ZFZ (k : Int) (h : ¬ (0 ≤ k ∧ k ≤ 9)) (nm : ByteArray) (w : World) : Calls Tryz.prog 57 #[itA k nm 0 false 0] w (NewLen w 0) := by
  have b0 : (k == 0) = false := by simp; omega
  have b7 : (k == 7) = false := by simp; omega
  have b8 : (k == 8) = false := by simp; omega
  have b9 : (k == 9) = false := by simp; omega
  have ht : tagW k = 0 := by unfold tagW; rw [if_neg (by omega), if_neg (by omega), if_neg (by omega), if_neg (by omega), if_neg (by omega), if_neg (by omega)]
  have HT := Lib.hid (fun W => spec_tag k W)
  rw [ht] at HT
  clear h ht
  go_enter Tryz.func57, Tryz.ntmps57
  go_wp2_with fail
  refine (HT.out _).mono ?_
  rintro e w' ⟨rfl, rfl⟩
  go_wp2_with fail
  go_ret
  exact new_emp (by simp) (by go_grown)

end Go.Proofs.YtogdbfjagnbllaaGreatDoor

namespace Go.Proofs.YtogdbfjagnbllaaGreatDoor
open Go.RowKit Go

set_option maxHeartbeats 1000000 in
theorem sc_var_NTV (nm : ByteArray) (n : Int) (hn : (n == 0) = false) (r : Nat) (m : Nat) (h1 : m = 1) (HWD : Hid (∀ W, Calls Tryz.prog 85 #[.int .u32 12, .string nm] W (NewLen W m))) (w : World) : Calls Tryz.prog 57 #[itA 9 nm n true (r : Int)] w (NewLen w 0) := by
  subst h1
  go_enter Tryz.func57, Tryz.ntmps57
  go_wp2_with fail
  refine (HWD.out _).mono ?_
  rintro e w3 ⟨v, zs, rfl, hl, hz, hown, hb3⟩
  have HE := Lib.hid (show w3.ownsRow w.heap.size 36 1 v zs.length (zs.map u32v) ∧ (∀ z ∈ zs, z < 4294967296) ∧ Below w.heap.size w w3 from ⟨own_base hown (by simp), hz, (((Below.refl w.heap.size w).alloc (Nat.le_refl _) _).trans (hb3.mono (by simp)))⟩)
  obtain ⟨A, cap, rfl⟩ := own_slice hown
  have hb4 : Below (w.heap.size + 1) (w.alloc (.cells #[.int .i64 9, .string nm, .int .i32 n, .bool true, .int .u32 (r : Int)] 38)) w3 := hb3.mono (by simp)
  obtain ⟨c0, c1, c2, c3, c4⟩ := it_box hb4
  have HL := Lib.hid hl
  rw [hl]
  clear hl hz hb3 hb4 hown
  go_wp2_with fail
  go_ret
  exact ⟨_, [], rfl, rfl, fun _ hz => absurd hz List.not_mem_nil, own_base (own_empty _ _) HE.out.2.2.size, HE.out.2.2.alloc HE.out.2.2.size _⟩

set_option maxHeartbeats 1000000 in
theorem sc_var_NFZ (nm : ByteArray) (n : Int) (hn : (n == 0) = false) (m : Nat) (h1 : m = 1) (HWD : Hid (∀ W, Calls Tryz.prog 85 #[.int .u32 12, .string nm] W (NewLen W m))) (w : World) : Calls Tryz.prog 57 #[itA 9 nm n false 0] w (NewLen w 2) := by
  obtain ⟨i0, hi, hz0, hz1, hz2⟩ := info_parts infoU32
  subst h1
  go_enter Tryz.func57, Tryz.ntmps57
  go_wp2_with fail
  refine (HWD.out _).mono ?_
  rintro e w3 ⟨v, zs, rfl, hl, hz, hown, hb3⟩
  have HE := Lib.hid (show w3.ownsRow w.heap.size 36 1 v zs.length (zs.map u32v) ∧ (∀ z ∈ zs, z < 4294967296) ∧ Below w.heap.size w w3 from ⟨own_base hown (by simp), hz, (((Below.refl w.heap.size w).alloc (Nat.le_refl _) _).trans (hb3.mono (by simp)))⟩)
  obtain ⟨A, cap, rfl⟩ := own_slice hown
  have hb4 : Below (w.heap.size + 1) (w.alloc (.cells #[.int .i64 9, .string nm, .int .i32 n, .bool false, .int .u32 0] 38)) w3 := hb3.mono (by simp)
  obtain ⟨c0, c1, c2, c3, c4⟩ := it_box hb4
  have hlt : w.heap.size < w3.heap.size := by have := hb3.size; simp at this; omega
  have hown2 := own_base hown (show w.heap.size ≤ _ by simp)
  rw [hl] at hown2
  rw [hl]
  obtain ⟨y, hy, hyl⟩ := u32_some (n)
  have HYL := Lib.hid hyl
  have HL := Lib.hid hl
  clear hl hz hb3 hb4 hyl hown
  go_wp2_with (at_builtin; refine wpList_append_own _ rfl _ _ 24 rfl w.heap.size 36 i0 (.int .u32 0) 1 4 Tryz.underlying24 hi hz0 hz1 hz2 rfl (by decide) _ _ _ rfl (hown2.alloc _) ⟨w3.heap.size, 0, none⟩ 1 1 [.int .u32 (y : Int)] rfl rfl (cell_one_new _ _ _) (by simp [Value.oneCell']) (by unfold maxLen; omega) (by omega) (by simp; omega) ?_; intro v' w4 hown' hgrow _)
  go_ret
  exact ⟨v', zs ++ [y], rfl, by rw [List.length_append, HL.out]; rfl, (snoc_len (pre := zs) (p := 0) ⟨rfl, HE.out.2.1⟩ HYL.out).2, by rw [List.length_append, HL.out, List.map_append]; exact hown', (HE.out.2.2.alloc HE.out.2.2.size _).grown hgrow (by simp; omega) (own_lt hown2)⟩

set_option maxHeartbeats 1000000 in
theorem sc_var_NFN (nm : ByteArray) (n : Int) (hn : (n == 0) = false) (r : Nat) (hr : ((r : Int) == 0) = false) (m : Nat) (h1 : m = 1) (HWD : Hid (∀ W, Calls Tryz.prog 85 #[.int .u32 12, .string nm] W (NewLen W m))) (w : World) : Calls Tryz.prog 57 #[itA 9 nm n false (r : Int)] w (NewLen w 0) := by
  subst h1
  go_enter Tryz.func57, Tryz.ntmps57
  go_wp2_with fail
  refine (HWD.out _).mono ?_
  rintro e w3 ⟨v, zs, rfl, hl, hz, hown, hb3⟩
  have HE := Lib.hid (show w3.ownsRow w.heap.size 36 1 v zs.length (zs.map u32v) ∧ (∀ z ∈ zs, z < 4294967296) ∧ Below w.heap.size w w3 from ⟨own_base hown (by simp), hz, (((Below.refl w.heap.size w).alloc (Nat.le_refl _) _).trans (hb3.mono (by simp)))⟩)
  obtain ⟨A, cap, rfl⟩ := own_slice hown
  have hb4 : Below (w.heap.size + 1) (w.alloc (.cells #[.int .i64 9, .string nm, .int .i32 n, .bool false, .int .u32 (r : Int)] 38)) w3 := hb3.mono (by simp)
  obtain ⟨c0, c1, c2, c3, c4⟩ := it_box hb4
  have HL := Lib.hid hl
  rw [hl]
  clear hl hz hb3 hb4 hown
  go_wp2_with fail
  go_ret
  exact ⟨_, [], rfl, rfl, fun _ hz => absurd hz List.not_mem_nil, own_base (own_empty _ _) HE.out.2.2.size, HE.out.2.2.alloc HE.out.2.2.size _⟩

set_option maxHeartbeats 1000000 in
theorem sc_var_ZTV (nm : ByteArray) (r : Nat) (m : Nat) (h1 : m = 1) (HWD : Hid (∀ W, Calls Tryz.prog 85 #[.int .u32 12, .string nm] W (NewLen W m))) (w : World) : Calls Tryz.prog 57 #[itA 9 nm 0 true (r : Int)] w (NewLen w 0) := by
  subst h1
  go_enter Tryz.func57, Tryz.ntmps57
  go_wp2_with fail
  refine (HWD.out _).mono ?_
  rintro e w3 ⟨v, zs, rfl, hl, hz, hown, hb3⟩
  have HE := Lib.hid (show w3.ownsRow w.heap.size 36 1 v zs.length (zs.map u32v) ∧ (∀ z ∈ zs, z < 4294967296) ∧ Below w.heap.size w w3 from ⟨own_base hown (by simp), hz, (((Below.refl w.heap.size w).alloc (Nat.le_refl _) _).trans (hb3.mono (by simp)))⟩)
  obtain ⟨A, cap, rfl⟩ := own_slice hown
  have hb4 : Below (w.heap.size + 1) (w.alloc (.cells #[.int .i64 9, .string nm, .int .i32 0, .bool true, .int .u32 (r : Int)] 38)) w3 := hb3.mono (by simp)
  obtain ⟨c0, c1, c2, c3, c4⟩ := it_box hb4
  have HL := Lib.hid hl
  rw [hl]
  clear hl hz hb3 hb4 hown
  go_wp2_with fail
  go_ret
  exact ⟨_, [], rfl, rfl, fun _ hz => absurd hz List.not_mem_nil, own_base (own_empty _ _) HE.out.2.2.size, HE.out.2.2.alloc HE.out.2.2.size _⟩

set_option maxHeartbeats 1000000 in
theorem sc_var_ZFN (nm : ByteArray) (r : Nat) (hr : ((r : Int) == 0) = false) (m : Nat) (h1 : m = 1) (HWD : Hid (∀ W, Calls Tryz.prog 85 #[.int .u32 12, .string nm] W (NewLen W m))) (w : World) : Calls Tryz.prog 57 #[itA 9 nm 0 false (r : Int)] w (NewLen w 0) := by
  subst h1
  go_enter Tryz.func57, Tryz.ntmps57
  go_wp2_with fail
  refine (HWD.out _).mono ?_
  rintro e w3 ⟨v, zs, rfl, hl, hz, hown, hb3⟩
  have HE := Lib.hid (show w3.ownsRow w.heap.size 36 1 v zs.length (zs.map u32v) ∧ (∀ z ∈ zs, z < 4294967296) ∧ Below w.heap.size w w3 from ⟨own_base hown (by simp), hz, (((Below.refl w.heap.size w).alloc (Nat.le_refl _) _).trans (hb3.mono (by simp)))⟩)
  obtain ⟨A, cap, rfl⟩ := own_slice hown
  have hb4 : Below (w.heap.size + 1) (w.alloc (.cells #[.int .i64 9, .string nm, .int .i32 0, .bool false, .int .u32 (r : Int)] 38)) w3 := hb3.mono (by simp)
  obtain ⟨c0, c1, c2, c3, c4⟩ := it_box hb4
  have HL := Lib.hid hl
  rw [hl]
  clear hl hz hb3 hb4 hown
  go_wp2_with fail
  go_ret
  exact ⟨_, [], rfl, rfl, fun _ hz => absurd hz List.not_mem_nil, own_base (own_empty _ _) HE.out.2.2.size, HE.out.2.2.alloc HE.out.2.2.size _⟩

set_option maxHeartbeats 1000000 in
theorem sc_var_ZFZ (nm : ByteArray) (m : Nat) (h1 : m = 1) (HWD : Hid (∀ W, Calls Tryz.prog 85 #[.int .u32 12, .string nm] W (NewLen W m))) (w : World) : Calls Tryz.prog 57 #[itA 9 nm 0 false 0] w (NewLen w 2) := by
  obtain ⟨i0, hi, hz0, hz1, hz2⟩ := info_parts infoU32
  subst h1
  go_enter Tryz.func57, Tryz.ntmps57
  go_wp2_with fail
  refine (HWD.out _).mono ?_
  rintro e w3 ⟨v, zs, rfl, hl, hz, hown, hb3⟩
  have HE := Lib.hid (show w3.ownsRow w.heap.size 36 1 v zs.length (zs.map u32v) ∧ (∀ z ∈ zs, z < 4294967296) ∧ Below w.heap.size w w3 from ⟨own_base hown (by simp), hz, (((Below.refl w.heap.size w).alloc (Nat.le_refl _) _).trans (hb3.mono (by simp)))⟩)
  obtain ⟨A, cap, rfl⟩ := own_slice hown
  have hb4 : Below (w.heap.size + 1) (w.alloc (.cells #[.int .i64 9, .string nm, .int .i32 0, .bool false, .int .u32 0] 38)) w3 := hb3.mono (by simp)
  obtain ⟨c0, c1, c2, c3, c4⟩ := it_box hb4
  have hlt : w.heap.size < w3.heap.size := by have := hb3.size; simp at this; omega
  have hown2 := own_base hown (show w.heap.size ≤ _ by simp)
  rw [hl] at hown2
  rw [hl]
  obtain ⟨y, hy, hyl⟩ := u32_some (0)
  have HYL := Lib.hid hyl
  have HL := Lib.hid hl
  clear hl hz hb3 hb4 hyl hown
  go_wp2_with (at_builtin; refine wpList_append_own _ rfl _ _ 24 rfl w.heap.size 36 i0 (.int .u32 0) 1 4 Tryz.underlying24 hi hz0 hz1 hz2 rfl (by decide) _ _ _ rfl (hown2.alloc _) ⟨w3.heap.size, 0, none⟩ 1 1 [.int .u32 (y : Int)] rfl rfl (cell_one_new _ _ _) (by simp [Value.oneCell']) (by unfold maxLen; omega) (by omega) (by simp; omega) ?_; intro v' w4 hown' hgrow _)
  go_ret
  exact ⟨v', zs ++ [y], rfl, by rw [List.length_append, HL.out]; rfl, (snoc_len (pre := zs) (p := 0) ⟨rfl, HE.out.2.1⟩ HYL.out).2, by rw [List.length_append, HL.out, List.map_append]; exact hown', (HE.out.2.2.alloc HE.out.2.2.size _).grown hgrow (by simp; omega) (own_lt hown2)⟩

set_option maxHeartbeats 1000000 in
theorem sc_vno_NVV (nm : ByteArray) (n : Int) (hn : (n == 0) = false) (x : Bool) (r : Nat) (m : Nat) (h1 : m ≠ 1) (HWD : Hid (∀ W, Calls Tryz.prog 85 #[.int .u32 12, .string nm] W (NewLen W m))) (w : World) : Calls Tryz.prog 57 #[itA 9 nm n x (r : Int)] w (NewLen w 0) := by
  go_enter Tryz.func57, Tryz.ntmps57
  go_wp2_with fail
  refine (HWD.out _).mono ?_
  rintro e w3 ⟨v, zs, rfl, hl, hz, hown, hb3⟩
  have HE := Lib.hid (show w3.ownsRow w.heap.size 36 1 v zs.length (zs.map u32v) ∧ (∀ z ∈ zs, z < 4294967296) ∧ Below w.heap.size w w3 from ⟨own_base hown (by simp), hz, (((Below.refl w.heap.size w).alloc (Nat.le_refl _) _).trans (hb3.mono (by simp)))⟩)
  obtain ⟨A, cap, rfl⟩ := own_slice hown
  have hne : ((zs.length : Int) == 1) = false := by simp; omega
  clear hl hz hb3 hown h1
  go_wp2_with fail
  go_ret
  exact ⟨_, [], rfl, rfl, fun _ hz => absurd hz List.not_mem_nil, own_base (own_empty _ _) HE.out.2.2.size, HE.out.2.2.alloc HE.out.2.2.size _⟩

set_option maxHeartbeats 1000000 in
theorem sc_vno_ZTV (nm : ByteArray) (r : Nat) (m : Nat) (h1 : m ≠ 1) (HWD : Hid (∀ W, Calls Tryz.prog 85 #[.int .u32 12, .string nm] W (NewLen W m))) (w : World) : Calls Tryz.prog 57 #[itA 9 nm 0 true (r : Int)] w (NewLen w 0) := by
  go_enter Tryz.func57, Tryz.ntmps57
  go_wp2_with fail
  refine (HWD.out _).mono ?_
  rintro e w3 ⟨v, zs, rfl, hl, hz, hown, hb3⟩
  have HE := Lib.hid (show w3.ownsRow w.heap.size 36 1 v zs.length (zs.map u32v) ∧ (∀ z ∈ zs, z < 4294967296) ∧ Below w.heap.size w w3 from ⟨own_base hown (by simp), hz, (((Below.refl w.heap.size w).alloc (Nat.le_refl _) _).trans (hb3.mono (by simp)))⟩)
  obtain ⟨A, cap, rfl⟩ := own_slice hown
  have hne : ((zs.length : Int) == 1) = false := by simp; omega
  clear hl hz hb3 hown h1
  go_wp2_with fail
  go_ret
  exact ⟨_, [], rfl, rfl, fun _ hz => absurd hz List.not_mem_nil, own_base (own_empty _ _) HE.out.2.2.size, HE.out.2.2.alloc HE.out.2.2.size _⟩

set_option maxHeartbeats 1000000 in
theorem sc_vno_ZFN (nm : ByteArray) (r : Nat) (hr : ((r : Int) == 0) = false) (m : Nat) (h1 : m ≠ 1) (HWD : Hid (∀ W, Calls Tryz.prog 85 #[.int .u32 12, .string nm] W (NewLen W m))) (w : World) : Calls Tryz.prog 57 #[itA 9 nm 0 false (r : Int)] w (NewLen w 0) := by
  go_enter Tryz.func57, Tryz.ntmps57
  go_wp2_with fail
  refine (HWD.out _).mono ?_
  rintro e w3 ⟨v, zs, rfl, hl, hz, hown, hb3⟩
  have HE := Lib.hid (show w3.ownsRow w.heap.size 36 1 v zs.length (zs.map u32v) ∧ (∀ z ∈ zs, z < 4294967296) ∧ Below w.heap.size w w3 from ⟨own_base hown (by simp), hz, (((Below.refl w.heap.size w).alloc (Nat.le_refl _) _).trans (hb3.mono (by simp)))⟩)
  obtain ⟨A, cap, rfl⟩ := own_slice hown
  have hne : ((zs.length : Int) == 1) = false := by simp; omega
  clear hl hz hb3 hown h1
  go_wp2_with fail
  go_ret
  exact ⟨_, [], rfl, rfl, fun _ hz => absurd hz List.not_mem_nil, own_base (own_empty _ _) HE.out.2.2.size, HE.out.2.2.alloc HE.out.2.2.size _⟩

set_option maxHeartbeats 1000000 in
theorem sc_vno_ZFZ (nm : ByteArray) (m : Nat) (h1 : m ≠ 1) (HWD : Hid (∀ W, Calls Tryz.prog 85 #[.int .u32 12, .string nm] W (NewLen W m))) (w : World) : Calls Tryz.prog 57 #[itA 9 nm 0 false 0] w (NewLen w 0) := by
  go_enter Tryz.func57, Tryz.ntmps57
  go_wp2_with fail
  refine (HWD.out _).mono ?_
  rintro e w3 ⟨v, zs, rfl, hl, hz, hown, hb3⟩
  have HE := Lib.hid (show w3.ownsRow w.heap.size 36 1 v zs.length (zs.map u32v) ∧ (∀ z ∈ zs, z < 4294967296) ∧ Below w.heap.size w w3 from ⟨own_base hown (by simp), hz, (((Below.refl w.heap.size w).alloc (Nat.le_refl _) _).trans (hb3.mono (by simp)))⟩)
  obtain ⟨A, cap, rfl⟩ := own_slice hown
  have hne : ((zs.length : Int) == 1) = false := by simp; omega
  clear hl hz hb3 hown h1
  go_wp2_with fail
  go_ret
  exact ⟨_, [], rfl, rfl, fun _ hz => absurd hz List.not_mem_nil, own_base (own_empty _ _) HE.out.2.2.size, HE.out.2.2.alloc HE.out.2.2.size _⟩

end Go.Proofs.YtogdbfjagnbllaaGreatDoor

namespace Go.Proofs.YtogdbfjagnbllaaGreatDoor
open Go.RowKit Go

theorem txt_ne {nm : ByteArray} (h : ¬ nm = noText) : nm.toList.isEmpty = false := by
  rw [ByteArray.toList_eq]
  cases hq : nm.data.toList with
  | nil =>
    refine absurd ?_ h
    obtain ⟨⟨l⟩⟩ := nm
    simp at hq
    rw [hq]
    rfl
  | cons a b => rfl
theorem int_ne {n : Int} (h : ¬ n = 0) : (n == 0) = false := by simpa using h
theorem nat_ne {r : Nat} (h : ¬ r = 0) : ((r : Int) == 0) = false := by simp; exact h
theorem spec_num (n : Int) (x : Bool) (s l : Nat) (w : World) : Calls Tryz.prog 84 #[.int .i32 n, .bool x, .int .u32 s, .int .u32 l] w (NewLen w (numCells n x s l).length) := by
  unfold numCells
  by_cases h : n < -67108864 ∨ 67108863 < n
  · rw [if_pos (show wideN n = true from decide_eq_true h)]
    exact spec_wide n x s l h w
  · rw [if_neg (by rw [show wideN n = false from decide_eq_false h]; decide)]
    exact spec_narrow n x s l (by omega) (by omega) w
theorem four (n : Int) (x : Bool) (r : Nat) : ¬ n = 0 ∨ (n = 0 ∧ x = true) ∨ (n = 0 ∧ x = false ∧ ¬ r = 0) ∨ (n = 0 ∧ x = false ∧ r = 0) := by
  by_cases h : n = 0
  · cases x with
    | true => exact .inr (.inl ⟨h, rfl⟩)
    | false =>
      by_cases hr : r = 0
      · exact .inr (.inr (.inr ⟨h, rfl, hr⟩))
      · exact .inr (.inr (.inl ⟨h, rfl, hr⟩))
  · exact .inl h
theorem spec_cells_raw (nm : ByteArray) (n : Int) (x : Bool) (r : Nat) (hr4 : r < 4294967296) (w : World) : Calls Tryz.prog 57 #[itA 0 nm n x (r : Int)] w (NewLen w (cellsOf ⟨0, nm, n, x, r⟩).length) := by
  rcases four n x r with hn | ⟨rfl, rfl⟩ | ⟨rfl, rfl, hr⟩ | ⟨rfl, rfl, rfl⟩ <;> by_cases hm : nm = noText
  · subst hm
    rw [show (cellsOf ⟨0, noText, n, x, r⟩).length = 0 by simp [cellsOf, hn]]
    exact sc_raw_NVVE n (int_ne hn) x r w
  · rw [show (cellsOf ⟨0, nm, n, x, r⟩).length = 0 by simp [cellsOf, hn]]
    exact sc_raw_NVVN nm (txt_ne hm) n (int_ne hn) x r w
  · subst hm
    exact sc_raw_ZTVE r w
  · rw [show (cellsOf ⟨0, nm, 0, true, r⟩).length = 0 by simp [cellsOf]]
    exact sc_raw_ZTVN nm (txt_ne hm) r w
  · subst hm
    rw [show (cellsOf ⟨0, noText, 0, false, r⟩).length = 1 by simp [cellsOf]]
    exact sc_raw_ZFNE r (nat_ne hr) hr4 w
  · rw [show (cellsOf ⟨0, nm, 0, false, r⟩).length = 0 by simp [cellsOf, hm]]
    exact sc_raw_ZFNN nm (txt_ne hm) r (nat_ne hr) w
  · subst hm
    exact sc_raw_ZFZE w
  · rw [show (cellsOf ⟨0, nm, 0, false, 0⟩).length = 0 by simp [cellsOf, hm]]
    exact sc_raw_ZFZN nm (txt_ne hm) w
theorem spec_cells_yel (nm : ByteArray) (n : Int) (x : Bool) (r : Nat) (w : World) : Calls Tryz.prog 57 #[itA 7 nm n x (r : Int)] w (NewLen w (cellsOf ⟨7, nm, n, x, r⟩).length) := by
  rw [cells_nums (it := ⟨7, nm, n, x, r⟩) (.inl rfl)]
  have HN := Lib.hid (fun W => spec_num n x 8 2 W)
  by_cases hm : nm = noText
  · subst hm
    by_cases hr0 : r = 0
    · subst hr0
      show Calls _ _ _ _ (NewLen w (numCells n x 8 2).length)
      rcases four n x 0 with hn | ⟨rfl, rfl⟩ | ⟨rfl, rfl, hr⟩ | ⟨rfl, rfl, _⟩
      · exact sc_n7_NVZE n (int_ne hn) x _ HN w
      · exact sc_n7_ZTZE _ HN w
      · exact absurd rfl hr
      · exact sc_n7_ZFZE _ HN w
    · rw [if_neg (fun h => hr0 h.2)]
      rcases four n x r with hn | ⟨rfl, rfl⟩ | ⟨rfl, rfl, hr⟩ | ⟨rfl, rfl, hr⟩
      · exact sc_n7_NVNE n (int_ne hn) x r (nat_ne hr0) w
      · exact sc_n7_ZTNE r (nat_ne hr0) w
      · exact sc_n7_ZFNE r (nat_ne hr0) w
      · exact absurd hr hr0
  · rw [if_neg (fun h => hm h.1)]
    rcases four n x r with hn | ⟨rfl, rfl⟩ | ⟨rfl, rfl, hr⟩ | ⟨rfl, rfl, rfl⟩
    · exact sc_n7_NVVN nm (txt_ne hm) n (int_ne hn) x r w
    · exact sc_n7_ZTVN nm (txt_ne hm) r w
    · exact sc_n7_ZFNN nm (txt_ne hm) r (nat_ne hr) w
    · exact sc_n7_ZFZN nm (txt_ne hm) w
theorem spec_cells_green (nm : ByteArray) (n : Int) (x : Bool) (r : Nat) (w : World) : Calls Tryz.prog 57 #[itA 8 nm n x (r : Int)] w (NewLen w (cellsOf ⟨8, nm, n, x, r⟩).length) := by
  rw [cells_nums (it := ⟨8, nm, n, x, r⟩) (.inr rfl)]
  have HN := Lib.hid (fun W => spec_num n x 6 5 W)
  by_cases hm : nm = noText
  · subst hm
    by_cases hr0 : r = 0
    · subst hr0
      show Calls _ _ _ _ (NewLen w (numCells n x 6 5).length)
      rcases four n x 0 with hn | ⟨rfl, rfl⟩ | ⟨rfl, rfl, hr⟩ | ⟨rfl, rfl, _⟩
      · exact sc_n8_NVZE n (int_ne hn) x _ HN w
      · exact sc_n8_ZTZE _ HN w
      · exact absurd rfl hr
      · exact sc_n8_ZFZE _ HN w
    · rw [if_neg (fun h => hr0 h.2)]
      rcases four n x r with hn | ⟨rfl, rfl⟩ | ⟨rfl, rfl, hr⟩ | ⟨rfl, rfl, hr⟩
      · exact sc_n8_NVNE n (int_ne hn) x r (nat_ne hr0) w
      · exact sc_n8_ZTNE r (nat_ne hr0) w
      · exact sc_n8_ZFNE r (nat_ne hr0) w
      · exact absurd hr hr0
  · rw [if_neg (fun h => hm h.1)]
    rcases four n x r with hn | ⟨rfl, rfl⟩ | ⟨rfl, rfl, hr⟩ | ⟨rfl, rfl, rfl⟩
    · exact sc_n8_NVVN nm (txt_ne hm) n (int_ne hn) x r w
    · exact sc_n8_ZTVN nm (txt_ne hm) r w
    · exact sc_n8_ZFNN nm (txt_ne hm) r (nat_ne hr) w
    · exact sc_n8_ZFZN nm (txt_ne hm) w
theorem spec_cells_var (nm : ByteArray) (n : Int) (x : Bool) (r : Nat) (hs : nm.size ≤ 4611686018427387904) (w : World) : Calls Tryz.prog 57 #[itA 9 nm n x (r : Int)] w (NewLen w (cellsOf ⟨9, nm, n, x, r⟩).length) := by
  have HW := Lib.hid (fun W => spec_word 12 nm hs W)
  have e : cellsOf ⟨9, nm, n, x, r⟩ = if x = false ∧ r = 0 then varCells (packs nm.data.toList) n else [] := rfl
  rw [e]
  obtain ⟨m, hm⟩ : ∃ m, (packs nm.data.toList).length = m := ⟨_, rfl⟩
  by_cases h1 : m = 1
  · by_cases hy : x = false ∧ r = 0
    · rw [if_pos hy, varCells_count, if_pos (by omega)]
      obtain ⟨rfl, rfl⟩ := hy
      rw [hm] at HW
      by_cases hn : n = 0
      · subst hn
        exact sc_var_ZFZ nm m h1 HW w
      · exact sc_var_NFZ nm n (int_ne hn) m h1 HW w
    · rw [if_neg hy]
      rw [hm] at HW
      rcases four n x r with hn | ⟨rfl, rfl⟩ | ⟨rfl, rfl, hr⟩ | ⟨rfl, rfl, hr⟩
      · cases x with
        | true => exact sc_var_NTV nm n (int_ne hn) r m h1 HW w
        | false => exact sc_var_NFN nm n (int_ne hn) r (nat_ne fun h => hy ⟨rfl, h⟩) m h1 HW w
      · exact sc_var_ZTV nm r m h1 HW w
      · exact sc_var_ZFN nm r (nat_ne hr) m h1 HW w
      · exact absurd ⟨rfl, hr⟩ hy
  · have e0 : (if x = false ∧ r = 0 then varCells (packs nm.data.toList) n else []).length = 0 := by
      split
      · rw [varCells_count, if_neg (by omega)]
      · rfl
    rw [e0]
    rw [hm] at HW
    rcases four n x r with hn | ⟨rfl, rfl⟩ | ⟨rfl, rfl, hr⟩ | ⟨rfl, rfl, rfl⟩
    · exact sc_vno_NVV nm n (int_ne hn) x r m h1 HW w
    · exact sc_vno_ZTV nm r m h1 HW w
    · exact sc_vno_ZFN nm r (nat_ne hr) m h1 HW w
    · exact sc_vno_ZFZ nm m h1 HW w
theorem spec_cellsof (it : It) (hin : ItIn it) (w : World) : Calls Tryz.prog 57 #[itVal it] w (NewLen w (cellsOf it).length) := by
  have hin2 := hin
  obtain ⟨k, nm, n, x, r⟩ := it
  obtain ⟨-, -, -, -, hr4, hs⟩ := hin2
  by_cases h0 : k = 0
  · subst h0; exact spec_cells_raw nm n x r hr4 w
  by_cases h7 : k = 7
  · subst h7; exact spec_cells_yel nm n x r w
  by_cases h8 : k = 8
  · subst h8; exact spec_cells_green nm n x r w
  by_cases h9 : k = 9
  · subst h9; exact spec_cells_var nm n x r hs w
  by_cases hw : 1 ≤ k ∧ k ≤ 6
  · rw [cells_words (it := ⟨k, nm, n, x, r⟩) hw]
    have hw2 : wordK k = true := decide_eq_true hw
    rcases four n x r with hn | ⟨rfl, rfl⟩ | ⟨rfl, rfl, hr⟩ | ⟨rfl, rfl, rfl⟩
    · rw [if_neg (fun h => hn h.1)]
      exact sc_word_NVV k hw2 nm n (int_ne hn) x r w
    · rw [if_neg (fun h => Bool.noConfusion (h.2.1 : true = false))]
      exact sc_word_ZTV k hw2 nm r w
    · rw [if_neg (fun h => hr h.2.2)]
      exact sc_word_ZFN k hw2 nm r (nat_ne hr) w
    · rw [if_pos ⟨rfl, rfl, rfl⟩, wordCells_len]
      exact sc_word_ZFZ k hw2 nm hs w
  · have e : cellsOf ⟨k, nm, n, x, r⟩ = [] := by
      unfold cellsOf
      rw [if_neg h0, if_neg (by show ¬ (k = 7 ∨ k = 8); omega), if_neg h9, if_neg hw]
    rw [e]
    have hk : ¬ (0 ≤ k ∧ k ≤ 9) := by omega
    rcases four n x r with hn | ⟨rfl, rfl⟩ | ⟨rfl, rfl, hr⟩ | ⟨rfl, rfl, rfl⟩
    · exact sc_else_NVV k hk nm n (int_ne hn) x r w
    · exact sc_else_ZTV k hk nm r w
    · exact sc_else_ZFN k hk nm r (nat_ne hr) w
    · exact sc_else_ZFZ k hk nm w
theorem spec_itemok (it : It) (hin : ItIn it) (w : World) : Calls Tryz.prog 21 #[itVal it] w fun e w' => e = .returned (.bool (decide (cellsOf it ≠ []))) ∧ Below w.heap.size w w' := by
  have HC := Lib.hid (fun W => spec_cellsof it hin W)
  obtain ⟨k, nm, n, x, r⟩ := it
  have hd : decide (cellsOf ⟨k, nm, n, x, r⟩ ≠ []) = decide (0 < (cellsOf ⟨k, nm, n, x, r⟩).length) := decide_eq_decide.2 List.length_pos_iff.symm
  rw [hd]
  obtain ⟨m, hm⟩ : ∃ m, (cellsOf ⟨k, nm, n, x, r⟩).length = m := ⟨_, rfl⟩
  rw [hm] at HC ⊢
  clear hm hd hin
  by_cases h0 : 0 < m
  · have e : decide (0 < m) = true := decide_eq_true h0
    rw [e]
    clear e
    go_enter Tryz.func21, Tryz.ntmps21
    go_wp2_with fail
    refine (HC.out _).mono ?_
    rintro e w1 ⟨v, zs, rfl, hl, -, hown, hb⟩
    obtain ⟨A, cap, rfl⟩ := own_slice hown
    have HB := Lib.hid (((Below.refl w.heap.size w).alloc (Nat.le_refl _) _).trans (hb.mono (by simp)))
    subst hl
    clear hown hb HC
    go_wp2_with fail
    go_ret
    exact ⟨rfl, HB.out⟩
  · have e : decide (0 < m) = false := decide_eq_false h0
    rw [e]
    obtain rfl : m = 0 := by omega
    clear e h0
    go_enter Tryz.func21, Tryz.ntmps21
    go_wp2_with fail
    refine (HC.out _).mono ?_
    rintro e w1 ⟨v, zs, rfl, hl, -, hown, hb⟩
    obtain ⟨A, cap, rfl⟩ := own_slice hown
    rw [hl]
    have HB := Lib.hid (((Below.refl w.heap.size w).alloc (Nat.le_refl _) _).trans (hb.mono (by simp)))
    clear hown hb HC hl
    go_wp2_with fail
    go_ret
    exact ⟨rfl, HB.out⟩
end Go.Proofs.YtogdbfjagnbllaaGreatDoor

namespace Go.Proofs.YtogdbfjagnbllaaGreatDoor
open Go.RowKit Go

abbrev InC (a lo hi : Int) (b : Bool) : Prop := Hid (∀ W : World, Calls Tryz.prog 112 #[.int .i64 a, .int .i64 lo, .int .i64 hi] W fun e w' => e = .returned (.bool b) ∧ W = w')
abbrev OkC (it : It) (w : World) (b : Bool) : Prop := Hid (∀ W, Below w.heap.size w W → Calls Tryz.prog 21 #[itVal it] W fun e w' => e = .returned (.bool b) ∧ Below W.heap.size W w')

end Go.Proofs.YtogdbfjagnbllaaGreatDoor

namespace Go.Proofs.YtogdbfjagnbllaaGreatDoor
open Go.RowKit Go

/-- A number of 32 bits with a sign is drawn. -/
def DrewI (g : Nat) (w : World) (e : Ending) (w' : World) : Prop := ∃ z : Int, e = .returned (.int .i32 z) ∧ (-2147483648 ≤ z ∧ z ≤ 2147483647) ∧ CurAt w' g ∧ w.grownBy w' (some g)
theorem i32_rng (x : Int) : -2147483648 ≤ wrap32 x ∧ wrap32 x ≤ 2147483647 := by unfold wrap32; omega
theorem drewi (g : Nat) (w w' : World) (z : Int) (h : -2147483648 ≤ z ∧ z ≤ 2147483647) (hc : CurAt w' g) (hg : w.grownBy w' (some g)) : DrewI g w (.returned (.int .i32 z)) w' := ⟨z, rfl, h, hc, hg⟩

set_option maxHeartbeats 2000000 in
theorem drawint_any (g : Nat) (w : World) (hc : CurAt w g) : Calls Tryz.prog 89 #[.pointer (some ⟨g, 0, none⟩)] w (DrewI g w) := by
  have hgl := cur_lt hc
  have HO := Lib.hid (once_any g 2 (by decide) w hc)
  clear hc
  go_enter Tryz.func89, Tryz.ntmps89
  go_wp2_with fail
  refine HO.out.mono ?_
  rintro e w1 ⟨b, rfl, hc1, hg1⟩
  have hgl1 : g < w1.heap.size := by have := hg1.size; omega
  have HG1 := Lib.hid hg1
  have HC1 := Lib.hid hc1
  clear hg1 hc1 HO
  cases b with
  | true =>
    have HB := Lib.hid (below_any g 200 (by omega) (by omega) w1 HC1.out)
    go_wp2_with fail
    refine HB.out.mono ?_
    rintro e w2 ⟨y, rfl, ⟨hy0, hy1⟩, hc2, hg2⟩
    have hy2 : y ≤ 199 := by simpa using hy1
    have HG2 := Lib.hid (only_trans HG1.out hg2)
    have HC2 := Lib.hid hc2
    clear hg2 hc2 hy1 HB
    go_wp2_with fail
    go_ret
    exact drewi g w w2 _ (by first | exact i32_rng _ | omega) HC2.out HG2.out
  | false =>
    have HP := Lib.hid (pickint_any g w1.heap.size [0, 67108863, 67108864, -67108864, -67108865, 2147483647, -2147483648, 1000000, -1] _ (HC1.out.grown (World.grownBy_alloc w1 _ none) (fun _ h => by cases h)) (ints_new w1 3 [0, 67108863, 67108864, -67108864, -67108865, 2147483647, -2147483648, 1000000, -1]) (by omega) (by simp) (by decide) (by decide))
    go_wp2_with fail
    refine HP.out.mono ?_
    rintro e w2 ⟨y, rfl, hy, hc2, hg2⟩
    have HG2 := Lib.hid (only_trans (only_alloc HG1.out _) hg2)
    have HC2 := Lib.hid hc2
    clear hg2 hc2 hy HP
    go_wp2_with fail
    go_ret
    exact drewi g w w2 _ (i32_rng _) HC2.out HG2.out
/-- An item is drawn. -/
def DrewIt (g : Nat) (w : World) (e : Ending) (w' : World) : Prop := ∃ it : It, e = .returned (itVal it) ∧ ItIn it ∧ it.name.size ≤ 100 ∧ CurAt w' g ∧ w.grownBy w' (some g)
/-- What is drawn lies in the first new block. -/
theorem drawn_end {w W : World} {g : Nat} (hgl : g < w.heap.size) (hc : CurAt W g) (hg : w.grownBy W (some g)) (k : Int) (nm : ByteArray) (n : Int) (x : Bool) (r : Int) :
    CurAt (putAll W w.heap.size k nm n x r) g ∧ w.grownBy (putAll W w.heap.size k nm n x r) (some g) := by
  have hb : W.grownBy (putAll W w.heap.size k nm n x r) (some w.heap.size) := by
    have h0 := World.grownBy.refl W (some w.heap.size)
    exact only_setCell (only_setCell (only_setCell (only_setCell (only_setCell h0 (.inl rfl) _) (.inl rfl) _) (.inl rfl) _) (.inl rfl) _) (.inl rfl) _
  refine ⟨hc.grown hb (fun k hk => by obtain rfl := Option.some.inj hk; exact hgl), ?_⟩
  exact only_setCell (only_setCell (only_setCell (only_setCell (only_setCell hg (.inr (Nat.le_refl _)) _) (.inr (Nat.le_refl _)) _) (.inr (Nat.le_refl _)) _) (.inr (Nat.le_refl _)) _) (.inr (Nat.le_refl _)) _
theorem res_kept {w W : World} {g : Nat} (hgl : g < w.heap.size) (hg : (w.alloc (.cells (itC 0 ⟨#[]⟩ 0 false 0) 38)).grownBy W (some g)) : Blk W w.heap.size 38 (itC 0 ⟨#[]⟩ 0 false 0) :=
  (Blk.new w _ _).grown hg (fun e => by have := Option.some.inj e; omega)
def drawnVars : List ByteArray := [⟨#[120]⟩, ⟨#[97, 116]⟩, ⟨#[113, 113, 113, 113]⟩, ⟨#[116, 101, 110]⟩]
theorem drawnVars_size : ∀ x ∈ drawnVars, x.size ≤ 9 := by decide

set_option maxHeartbeats 8000000 in
theorem drawsome_any (g : Nat) (w : World) (hc : CurAt w g) : Calls Tryz.prog 60 #[.pointer (some ⟨g, 0, none⟩)] w (DrewIt g w) := by
  have HGL := Lib.hid (cur_lt hc)
  have HC0 := Lib.hid (below_any g 8 (by omega) (by omega) _ (hc.grown (World.grownBy_alloc w (.cells (itC 0 ⟨#[]⟩ 0 false 0) 38) none) (fun _ h => by cases h)))
  clear hc
  go_enter Tryz.func60, Tryz.ntmps60
  go_wp2_with fail
  refine HC0.out.mono ?_
  rintro e w1 ⟨y, rfl, ⟨hy0, hy1⟩, hc1, hg1⟩
  have hy2 : y ≤ 7 := by simpa using hy1
  have HG1 := Lib.hid hg1
  have HC1 := Lib.hid hc1
  clear hc1 hg1 hy1 HC0
  by_cases h0 : y = 0
  · have b0 : (y == 0) = true := by simpa using h0
    clear h0 hy0 hy2
    go_wp2_with fail
    refine (drawint_any g w1 HC1.out).mono ?_
    rintro e w2 ⟨z, rfl, hz, hc2, hg2⟩
    have HO := Lib.hid (once_any g 3 (by decide) w2 hc2)
    have HG2 := Lib.hid (only_trans HG1.out hg2)
    clear hc2 hg2
    go_wp2_with fail
    refine HO.out.mono ?_
    rintro e w3 ⟨b, rfl, hc3, hg3⟩
    have HG3 := Lib.hid (only_trans HG2.out hg3)
    have HC := Lib.hid hc3
    have HG := Lib.hid (only_trans (World.grownBy_alloc w (.cells (itC 0 ⟨#[]⟩ 0 false 0) 38) (some g)) HG3.out)
    clear hc3 hg3 HO HG1 HC1 HG2
    have kr := res_kept HGL.out HG3.out
    obtain ⟨d0, d1, d2, d3, d4, f0, f1, f2, f3, f4⟩ := itC_cells kr
    have KR := Lib.hid kr
    clear kr
    go_wp2_with fail
    have hk := putAll_blk KR.out (7) ⟨#[]⟩ (z) b 0
    have hd := drawn_end HGL.out HC.out HG.out (7) ⟨#[]⟩ (z) b 0
    show bodyPost _ _ _ _ _ (putAll w3 w.heap.size (7) ⟨#[]⟩ (z) b 0)
    generalize putAll w3 w.heap.size (7) ⟨#[]⟩ (z) b 0 = W5 at hk hd ⊢
    obtain ⟨e0, e1, e2, e3, e4, -⟩ := itC_cells hk
    clear hk
    exact bodyPost_ret (v := itA (7) ⟨#[]⟩ (z) b 0) (by simp [results, Tryz.results60, e0, e1, e2, e3, e4, go_sem]) rfl ⟨⟨7, ⟨#[]⟩, z, b, 0⟩, rfl, ⟨by show (-9223372036854775808 : Int) ≤ 7; decide, by show (7 : Int) ≤ 9223372036854775807; decide, hz.1, hz.2, by show 0 < 4294967296; decide, by show 0 ≤ 4611686018427387904; decide⟩, by show 0 ≤ 100; decide, hd.1, hd.2⟩
  have b0 : (y == 0) = false := by simpa using h0
  by_cases h1 : y = 1
  · have b1 : (y == 1) = true := by simpa using h1
    clear h0 h1 hy0 hy2
    go_wp2_with fail
    refine (drawint_any g w1 HC1.out).mono ?_
    rintro e w2 ⟨z, rfl, hz, hc2, hg2⟩
    have HO := Lib.hid (once_any g 3 (by decide) w2 hc2)
    have HG2 := Lib.hid (only_trans HG1.out hg2)
    clear hc2 hg2
    go_wp2_with fail
    refine HO.out.mono ?_
    rintro e w3 ⟨b, rfl, hc3, hg3⟩
    have HG3 := Lib.hid (only_trans HG2.out hg3)
    have HC := Lib.hid hc3
    have HG := Lib.hid (only_trans (World.grownBy_alloc w (.cells (itC 0 ⟨#[]⟩ 0 false 0) 38) (some g)) HG3.out)
    clear hc3 hg3 HO HG1 HC1 HG2
    have kr := res_kept HGL.out HG3.out
    obtain ⟨d0, d1, d2, d3, d4, f0, f1, f2, f3, f4⟩ := itC_cells kr
    have KR := Lib.hid kr
    clear kr
    go_wp2_with fail
    have hk := putAll_blk KR.out (8) ⟨#[]⟩ (z) b 0
    have hd := drawn_end HGL.out HC.out HG.out (8) ⟨#[]⟩ (z) b 0
    show bodyPost _ _ _ _ _ (putAll w3 w.heap.size (8) ⟨#[]⟩ (z) b 0)
    generalize putAll w3 w.heap.size (8) ⟨#[]⟩ (z) b 0 = W5 at hk hd ⊢
    obtain ⟨e0, e1, e2, e3, e4, -⟩ := itC_cells hk
    clear hk
    exact bodyPost_ret (v := itA (8) ⟨#[]⟩ (z) b 0) (by simp [results, Tryz.results60, e0, e1, e2, e3, e4, go_sem]) rfl ⟨⟨8, ⟨#[]⟩, z, b, 0⟩, rfl, ⟨by show (-9223372036854775808 : Int) ≤ 8; decide, by show (8 : Int) ≤ 9223372036854775807; decide, hz.1, hz.2, by show 0 < 4294967296; decide, by show 0 ≤ 4611686018427387904; decide⟩, by show 0 ≤ 100; decide, hd.1, hd.2⟩
  have b1 : (y == 1) = false := by simpa using h1
  by_cases h2 : y = 2
  · have b2 : (y == 2) = true := by simpa using h2
    clear h0 h1 h2 hy0 hy2
    have hs1 : g < w1.heap.size := by have h5 := HG1.out.size; have h6 := HGL.out; simp at h5; omega
    have HP := Lib.hid (pick_any g w1.heap.size drawnVars _ (HC1.out.grown (World.grownBy_alloc w1 _ none) (fun _ h => by cases h)) (strs_new w1 9 drawnVars) (by omega) (by simp) (by decide) (by decide))
    clear hs1
    go_wp2_with fail
    refine HP.out.mono ?_
    rintro e w2 ⟨s, rfl, hs, hc2, hg2⟩
    have hs9 := drawnVars_size s hs
    have HI := Lib.hid (drawint_any g w2 hc2)
    have HG2 := Lib.hid (only_trans (only_alloc HG1.out _) hg2)
    clear hs hc2 hg2 HP
    go_wp2_with fail
    refine HI.out.mono ?_
    rintro e w3 ⟨z, rfl, hz, hc3, hg3⟩
    have HG3 := Lib.hid (only_trans HG2.out hg3)
    have HC := Lib.hid hc3
    have HG := Lib.hid (only_trans (World.grownBy_alloc w (.cells (itC 0 ⟨#[]⟩ 0 false 0) 38) (some g)) HG3.out)
    clear hc3 hg3 HI HG1 HC1 HG2
    have kr := res_kept HGL.out HG3.out
    obtain ⟨d0, d1, d2, d3, d4, f0, f1, f2, f3, f4⟩ := itC_cells kr
    have KR := Lib.hid kr
    clear kr
    go_wp2_with fail
    have hk := putAll_blk KR.out (9) s (z) false 0
    have hd := drawn_end HGL.out HC.out HG.out (9) s (z) false 0
    show bodyPost _ _ _ _ _ (putAll w3 w.heap.size (9) s (z) false 0)
    generalize putAll w3 w.heap.size (9) s (z) false 0 = W5 at hk hd ⊢
    obtain ⟨e0, e1, e2, e3, e4, -⟩ := itC_cells hk
    clear hk
    exact bodyPost_ret (v := itA (9) s (z) false 0) (by simp [results, Tryz.results60, e0, e1, e2, e3, e4, go_sem]) rfl ⟨⟨9, s, z, false, 0⟩, rfl, ⟨by show (-9223372036854775808 : Int) ≤ 9; decide, by show (9 : Int) ≤ 9223372036854775807; decide, hz.1, hz.2, by show 0 < 4294967296; decide, by show s.size ≤ 4611686018427387904; omega⟩, by show s.size ≤ 100; omega, hd.1, hd.2⟩
  have b2 : (y == 2) = false := by simpa using h2
  clear h0 h1 h2 hy0 hy2
  have HB := Lib.hid (below_any g 6 (by omega) (by omega) w1 HC1.out)
  go_wp2_with fail
  refine HB.out.mono ?_
  rintro e w2 ⟨k, rfl, ⟨hk0, hk1⟩, hc2, hg2⟩
  have hk2 : k ≤ 5 := by simpa using hk1
  have HN := Lib.hid (name_any g w2 hc2)
  have HG2 := Lib.hid (only_trans HG1.out hg2)
  clear hc2 hg2 hk1 HB
  go_wp2_with fail
  refine HN.out.mono ?_
  rintro e w3 ⟨s, rfl, hs9, hc3, hg3⟩
  have HG3 := Lib.hid (only_trans HG2.out hg3)
  have HC := Lib.hid hc3
  have HG := Lib.hid (only_trans (World.grownBy_alloc w (.cells (itC 0 ⟨#[]⟩ 0 false 0) 38) (some g)) HG3.out)
  clear hc3 hg3 HN HG1 HC1 HG2
  have kr := res_kept HGL.out HG3.out
  obtain ⟨d0, d1, d2, d3, d4, f0, f1, f2, f3, f4⟩ := itC_cells kr
  have KR := Lib.hid kr
  clear kr
  go_wp2_with fail
  have hk := putAll_blk KR.out (1 + k) s (0) false 0
  have hd := drawn_end HGL.out HC.out HG.out (1 + k) s (0) false 0
  show bodyPost _ _ _ _ _ (putAll w3 w.heap.size (1 + k) s (0) false 0)
  generalize putAll w3 w.heap.size (1 + k) s (0) false 0 = W5 at hk hd ⊢
  obtain ⟨e0, e1, e2, e3, e4, -⟩ := itC_cells hk
  clear hk
  exact bodyPost_ret (v := itA (1 + k) s (0) false 0) (by simp [results, Tryz.results60, e0, e1, e2, e3, e4, go_sem]) rfl ⟨⟨1 + k, s, 0, false, 0⟩, rfl, ⟨by show (-9223372036854775808 : Int) ≤ 1 + k; omega, by show 1 + k ≤ 9223372036854775807; omega, by show (-2147483648 : Int) ≤ 0; decide, by show (0 : Int) ≤ 2147483647; decide, by show 0 < 4294967296; decide, by show s.size ≤ 4611686018427387904; omega⟩, by show s.size ≤ 100; omega, hd.1, hd.2⟩
end Go.Proofs.YtogdbfjagnbllaaGreatDoor

namespace Go.Proofs.YtogdbfjagnbllaaGreatDoor
open Go.RowKit Go

def drawnBad : List ByteArray := [⟨#[]⟩, ⟨#[65]⟩, ⟨#[113, 113, 113, 113, 113]⟩, ⟨#[115, 113, 117, 97, 114, 101, 115, 113, 117, 97, 114, 101]⟩]
theorem drawnBad_size : ∀ x ∈ drawnBad, x.size ≤ 12 := by decide
theorem it_new {w W : World} {g : Nat} {k : Int} {nm : ByteArray} {n : Int} {x : Bool} {r : Int} (hgl : g < w.heap.size) (hg : (w.alloc (.cells (itC k nm n x r) 38)).grownBy W (some g)) : Blk W w.heap.size 38 (itC k nm n x r) :=
  (Blk.new w _ _).grown hg (fun e => by have := Option.some.inj e; omega)

set_option maxHeartbeats 8000000 in
theorem drawany_any (g : Nat) (w : World) (hc : CurAt w g) : Calls Tryz.prog 49 #[.pointer (some ⟨g, 0, none⟩)] w (DrewIt g w) := by
  have HGL := Lib.hid (cur_lt hc)
  have HC0 := Lib.hid (drawsome_any g _ (hc.grown (World.grownBy_alloc w (.cells (itC 0 ⟨#[]⟩ 0 false 0) 38) none) (fun _ h => by cases h)))
  clear hc
  go_enter Tryz.func49, Tryz.ntmps49
  go_wp2_with fail
  refine HC0.out.mono ?_
  rintro e w1 ⟨it, rfl, hin, hsz, hc1, hg1⟩
  obtain ⟨k, nm, n, x, r⟩ := it
  have HIN := Lib.hid hin
  have HSZ := Lib.hid hsz
  have hs1 : w.heap.size < w1.heap.size := by have h5 := hg1.size; simp at h5; omega
  have HS1 := Lib.hid hs1
  have hc2 := hc1.grown (World.grownBy_alloc w1 (.cells (itC k nm n x (r : Int)) 38) none) (fun _ h => by cases h)
  have HG1 := Lib.hid (only_alloc hg1 (.cells (itC k nm n x (r : Int)) 38))
  have HB := Lib.hid (below_any g 14 (by omega) (by omega) _ hc2)
  clear hc1 hg1 hin hsz hs1 hc2 HC0
  go_wp2_with fail
  refine HB.out.mono ?_
  rintro e w2 ⟨y, rfl, ⟨hy0, hy1⟩, hc2, hg2⟩
  have hy2 : y ≤ 13 := by simpa using hy1
  have hs2 : w1.heap.size < w2.heap.size := by have h5 := hg2.size; simp at h5; omega
  have KB := Lib.hid (it_new (Nat.lt_trans HGL.out HS1.out) hg2)
  have HG2 := Lib.hid (only_trans HG1.out hg2)
  have HC2 := Lib.hid hc2
  have HS2 := Lib.hid hs2
  clear hc2 hg2 hy1 HB hs2 HG1
  by_cases h0 : y = 0
  · have b0 : (y == 0) = true := by simpa using h0
    clear h0 hy0 hy2
    have HW := Lib.hid (word_any g w2 HC2.out)
    go_wp2_with fail
    refine HW.out.mono ?_
    rintro e w3 ⟨z, rfl, hz, hc3, hg3⟩
    have HG3 := only_trans HG2.out hg3
    have HC := Lib.hid hc3
    have HG := Lib.hid (only_trans (World.grownBy_alloc w (.cells (itC 0 ⟨#[]⟩ 0 false 0) 38) (some g)) HG3)
    have kr := res_kept HGL.out HG3
    obtain ⟨d0, d1, d2, d3, d4, f0, f1, f2, f3, f4⟩ := itC_cells kr
    have KR := Lib.hid kr
    have HZ := Lib.hid hz
    clear hc3 hg3 HG3 kr HW HC2 HG2 hz
    go_wp2_with fail
    have hk := putAll_blk KR.out (0) ⟨#[]⟩ (0) false (z : Int)
    have hd := drawn_end HGL.out HC.out HG.out (0) ⟨#[]⟩ (0) false (z : Int)
    show bodyPost _ _ _ _ _ (putAll w3 w.heap.size (0) ⟨#[]⟩ (0) false (z : Int))
    generalize putAll w3 w.heap.size (0) ⟨#[]⟩ (0) false (z : Int) = W5 at hk hd ⊢
    obtain ⟨e0, e1, e2, e3, e4, -⟩ := itC_cells hk
    clear hk
    exact bodyPost_ret (v := itA (0) ⟨#[]⟩ (0) false (z : Int)) (by simp [results, Tryz.results49, e0, e1, e2, e3, e4, go_sem]) rfl ⟨⟨0, ⟨#[]⟩, 0, false, z⟩, rfl, ⟨by show (-9223372036854775808 : Int) ≤ 0; decide, by show (0 : Int) ≤ 9223372036854775807; decide, by show (-2147483648 : Int) ≤ 0; decide, by show (0 : Int) ≤ 2147483647; decide, HZ.out, by show 0 ≤ 4611686018427387904; decide⟩, by show 0 ≤ 100; decide, hd.1, hd.2⟩
  have b0 : (y == 0) = false := by simpa using h0
  by_cases h1 : y = 1
  · have b1 : (y == 1) = true := by simpa using h1
    clear h0 h1 hy0 hy2
    have HW := Lib.hid (below_any g 12 (by omega) (by omega) w2 HC2.out)
    go_wp2_with fail
    refine HW.out.mono ?_
    rintro e w3 ⟨z, rfl, ⟨hz0, hz1⟩, hc3, hg3⟩
    have hz2 : z ≤ 11 := by simpa using hz1
    have HG3 := only_trans HG2.out hg3
    have kb := KB.out.grown hg3 (fun e => by have := Option.some.inj e; have := HGL.out; have := HS1.out; omega)
    obtain ⟨c0, c1, c2, c3, c4, p0, p1, p2, p3, p4⟩ := itC_cells kb
    have hb3 : w3.grownBy (w3.setCell ⟨w1.heap.size, 0, none⟩ (.int .i64 (z - 1))) (some w1.heap.size) := only_setCell (World.grownBy.refl _ _) (.inl rfl) _
    have HC := Lib.hid (hc3.grown hb3 (fun k hk => by obtain rfl := Option.some.inj hk; exact Nat.lt_trans HGL.out HS1.out))
    have HG := Lib.hid (only_setCell (p := ⟨w1.heap.size, 0, none⟩) (only_trans (World.grownBy_alloc w (.cells (itC 0 ⟨#[]⟩ 0 false 0) 38) (some g)) HG3) (.inr (Nat.le_of_lt HS1.out)) (.int .i64 (z - 1)))
    have kr := res_kept HGL.out HG3
    obtain ⟨d0, d1, d2, d3, d4, f0, f1, f2, f3, f4⟩ := itC_cells kr
    have KR := Lib.hid (kr.far (p := ⟨w1.heap.size, 0, none⟩) (by have := HS1.out; show w.heap.size ≠ w1.heap.size; omega) (.int .i64 (z - 1)))
    have hlt : w.heap.size < w1.heap.size := HS1.out
    clear hc3 hg3 HG3 kr kb hb3 HW HC2 HG2 hz1
    go_wp2_with fail
    have hk := putAll_blk KR.out (z - 1) nm (n) x (r : Int)
    have hd := drawn_end HGL.out HC.out HG.out (z - 1) nm (n) x (r : Int)
    show bodyPost _ _ _ _ _ (putAll (w3.setCell ⟨w1.heap.size, 0, none⟩ (.int .i64 (z - 1))) w.heap.size (z - 1) nm (n) x (r : Int))
    generalize putAll (w3.setCell ⟨w1.heap.size, 0, none⟩ (.int .i64 (z - 1))) w.heap.size (z - 1) nm (n) x (r : Int) = W5 at hk hd ⊢
    obtain ⟨e0, e1, e2, e3, e4, -⟩ := itC_cells hk
    clear hk
    exact bodyPost_ret (v := itA (z - 1) nm (n) x (r : Int)) (by simp [results, Tryz.results49, e0, e1, e2, e3, e4, go_sem]) rfl ⟨⟨z - 1, nm, n, x, r⟩, rfl, ⟨by show (-9223372036854775808 : Int) ≤ z - 1; omega, by show z - 1 ≤ 9223372036854775807; omega, HIN.out.n1, HIN.out.n2, HIN.out.r, HIN.out.s⟩, HSZ.out, hd.1, hd.2⟩
  have b1 : (y == 1) = false := by simpa using h1
  by_cases h2 : y = 2
  · have b2 : (y == 2) = true := by simpa using h2
    clear h0 h1 h2 hy0 hy2
    have hs3 : g < w2.heap.size := by have := HS2.out; have := HS1.out; have := HGL.out; omega
    have HP := Lib.hid (pick_any g w2.heap.size drawnBad _ (HC2.out.grown (World.grownBy_alloc w2 _ none) (fun _ h => by cases h)) (strs_new w2 9 drawnBad) (by omega) (by simp) (by decide) (by decide))
    clear hs3
    go_wp2_with fail
    refine HP.out.mono ?_
    rintro e w3 ⟨s, rfl, hs, hc3, hg3⟩
    have hs12 := drawnBad_size s hs
    have HG3 := only_trans (only_alloc HG2.out _) hg3
    have kb := (KB.out.alloc _).grown hg3 (fun e => by have := Option.some.inj e; have := HGL.out; have := HS1.out; omega)
    obtain ⟨c0, c1, c2, c3, c4, p0, p1, p2, p3, p4⟩ := itC_cells kb
    have hb3 : w3.grownBy (w3.setCell ⟨w1.heap.size, 1, none⟩ (.string s)) (some w1.heap.size) := only_setCell (World.grownBy.refl _ _) (.inl rfl) _
    have HC := Lib.hid (hc3.grown hb3 (fun k hk => by obtain rfl := Option.some.inj hk; exact Nat.lt_trans HGL.out HS1.out))
    have HG := Lib.hid (only_setCell (p := ⟨w1.heap.size, 1, none⟩) (only_trans (World.grownBy_alloc w (.cells (itC 0 ⟨#[]⟩ 0 false 0) 38) (some g)) HG3) (.inr (Nat.le_of_lt HS1.out)) (.string s))
    have kr := res_kept HGL.out HG3
    obtain ⟨d0, d1, d2, d3, d4, f0, f1, f2, f3, f4⟩ := itC_cells kr
    have KR := Lib.hid (kr.far (p := ⟨w1.heap.size, 1, none⟩) (by have := HS1.out; show w.heap.size ≠ w1.heap.size; omega) (.string s))
    have hlt : w.heap.size < w1.heap.size := HS1.out
    clear hc3 hg3 HG3 kr kb hb3 HP HC2 HG2 hs
    go_wp2_with fail
    have hk := putAll_blk KR.out (k) s (n) x (r : Int)
    have hd := drawn_end HGL.out HC.out HG.out (k) s (n) x (r : Int)
    show bodyPost _ _ _ _ _ (putAll (w3.setCell ⟨w1.heap.size, 1, none⟩ (.string s)) w.heap.size (k) s (n) x (r : Int))
    generalize putAll (w3.setCell ⟨w1.heap.size, 1, none⟩ (.string s)) w.heap.size (k) s (n) x (r : Int) = W5 at hk hd ⊢
    obtain ⟨e0, e1, e2, e3, e4, -⟩ := itC_cells hk
    clear hk
    exact bodyPost_ret (v := itA (k) s (n) x (r : Int)) (by simp [results, Tryz.results49, e0, e1, e2, e3, e4, go_sem]) rfl ⟨⟨k, s, n, x, r⟩, rfl, ⟨HIN.out.k1, HIN.out.k2, HIN.out.n1, HIN.out.n2, HIN.out.r, by show s.size ≤ 4611686018427387904; omega⟩, by show s.size ≤ 100; omega, hd.1, hd.2⟩
  have b2 : (y == 2) = false := by simpa using h2
  by_cases h3 : y = 3
  · have b3 : (y == 3) = true := by simpa using h3
    clear h0 h1 h2 h3 hy0 hy2
    have HW := Lib.hid (below_any g 3 (by omega) (by omega) w2 HC2.out)
    go_wp2_with fail
    refine HW.out.mono ?_
    rintro e w3 ⟨z, rfl, ⟨hz0, hz1⟩, hc3, hg3⟩
    have hz2 : z ≤ 2 := by simpa using hz1
    obtain ⟨m, rfl⟩ : ∃ m : Nat, z = m := ⟨z.toNat, by omega⟩
    have HG3 := only_trans HG2.out hg3
    have kb := KB.out.grown hg3 (fun e => by have := Option.some.inj e; have := HGL.out; have := HS1.out; omega)
    obtain ⟨c0, c1, c2, c3, c4, p0, p1, p2, p3, p4⟩ := itC_cells kb
    have hb3 : w3.grownBy (w3.setCell ⟨w1.heap.size, 4, none⟩ (.int .u32 (m : Int))) (some w1.heap.size) := only_setCell (World.grownBy.refl _ _) (.inl rfl) _
    have HC := Lib.hid (hc3.grown hb3 (fun k hk => by obtain rfl := Option.some.inj hk; exact Nat.lt_trans HGL.out HS1.out))
    have HG := Lib.hid (only_setCell (p := ⟨w1.heap.size, 4, none⟩) (only_trans (World.grownBy_alloc w (.cells (itC 0 ⟨#[]⟩ 0 false 0) 38) (some g)) HG3) (.inr (Nat.le_of_lt HS1.out)) (.int .u32 (m : Int)))
    have kr := res_kept HGL.out HG3
    obtain ⟨d0, d1, d2, d3, d4, f0, f1, f2, f3, f4⟩ := itC_cells kr
    have KR := Lib.hid (kr.far (p := ⟨w1.heap.size, 4, none⟩) (by have := HS1.out; show w.heap.size ≠ w1.heap.size; omega) (.int .u32 (m : Int)))
    have hlt : w.heap.size < w1.heap.size := HS1.out
    have hmod : (m : Int) % 4294967296 = (m : Int) := by omega
    have hwr : IntKind.u32.wrap (m : Int) = (m : Int) := by rw [IntKind.wrap_u32]; omega
    clear hc3 hg3 HG3 kr kb hb3 HW HC2 HG2 hz1
    go_wp2_with fail
    have hk := putAll_blk KR.out (k) nm (n) x (m : Int)
    have hd := drawn_end HGL.out HC.out HG.out (k) nm (n) x (m : Int)
    show bodyPost _ _ _ _ _ (putAll (w3.setCell ⟨w1.heap.size, 4, none⟩ (.int .u32 (m : Int))) w.heap.size (k) nm (n) x (m : Int))
    generalize putAll (w3.setCell ⟨w1.heap.size, 4, none⟩ (.int .u32 (m : Int))) w.heap.size (k) nm (n) x (m : Int) = W5 at hk hd ⊢
    obtain ⟨e0, e1, e2, e3, e4, -⟩ := itC_cells hk
    clear hk
    exact bodyPost_ret (v := itA (k) nm (n) x (m : Int)) (by simp [results, Tryz.results49, e0, e1, e2, e3, e4, go_sem]) rfl ⟨⟨k, nm, n, x, m⟩, rfl, ⟨HIN.out.k1, HIN.out.k2, HIN.out.n1, HIN.out.n2, by show m < 4294967296; omega, HIN.out.s⟩, HSZ.out, hd.1, hd.2⟩
  have b3 : (y == 3) = false := by simpa using h3
  clear h0 h1 h2 h3 hy0 hy2
  obtain ⟨c0, c1, c2, c3, c4, p0, p1, p2, p3, p4⟩ := itC_cells KB.out
  have HC := Lib.hid HC2.out
  have HG := Lib.hid (only_trans (World.grownBy_alloc w (.cells (itC 0 ⟨#[]⟩ 0 false 0) 38) (some g)) HG2.out)
  have kr := res_kept HGL.out HG2.out
  obtain ⟨d0, d1, d2, d3, d4, f0, f1, f2, f3, f4⟩ := itC_cells kr
  have KR := Lib.hid kr
  have hlt : w.heap.size < w1.heap.size := HS1.out
  clear kr HC2 HG2
  go_wp2_with fail
  have hk := putAll_blk KR.out (k) nm (n) x (r : Int)
  have hd := drawn_end HGL.out HC.out HG.out (k) nm (n) x (r : Int)
  show bodyPost _ _ _ _ _ (putAll w2 w.heap.size (k) nm (n) x (r : Int))
  generalize putAll w2 w.heap.size (k) nm (n) x (r : Int) = W5 at hk hd ⊢
  obtain ⟨e0, e1, e2, e3, e4, -⟩ := itC_cells hk
  clear hk
  exact bodyPost_ret (v := itA (k) nm (n) x (r : Int)) (by simp [results, Tryz.results49, e0, e1, e2, e3, e4, go_sem]) rfl ⟨⟨k, nm, n, x, r⟩, rfl, HIN.out, HSZ.out, hd.1, hd.2⟩
end Go.Proofs.YtogdbfjagnbllaaGreatDoor

namespace Go.Proofs.YtogdbfjagnbllaaGreatDoor
open Go.RowKit Go

def DrewRec (w : World) (e : Ending) (w' : World) : Prop := ∃ (it : It) (k : Int), e = .returned (.tuple #[itVal it, .int .i64 k]) ∧ ItIn it ∧ it.name.size ≤ 100 ∧ (-1 ≤ k ∧ k ≤ 10) ∧ Below w.heap.size w w'
theorem cells5 {w : World} {g : Nat} {t : TypeId} {k : Int} {nm : ByteArray} {n : Int} {hx : Bool} {r : Int} (h : Blk w g t (itC k nm n hx r)) :
    w.cell? ⟨g, 0, none⟩ = some (.int .i64 k) ∧ w.cell? ⟨g, 1, none⟩ = some (.string nm) ∧ w.cell? ⟨g, 2, none⟩ = some (.int .i32 n) ∧ w.cell? ⟨g, 3, none⟩ = some (.bool hx) ∧ w.cell? ⟨g, 4, none⟩ = some (.int .u32 r) := by
  obtain ⟨a, b, c, d, e, -⟩ := itC_cells h
  exact ⟨a, b, c, d, e⟩

end Go.Proofs.YtogdbfjagnbllaaGreatDoor

namespace Go.Proofs.YtogdbfjagnbllaaGreatDoor
open Go.RowKit Go

/-- An item is drawn, beside memory that stays. -/
def DrewT (w : World) (e : Ending) (w' : World) : Prop := ∃ it : It, e = .returned (itVal it) ∧ ItIn it ∧ it.name.size ≤ 100 ∧ Below w.heap.size w w'

set_option maxHeartbeats 8000000 in
theorem drawtext_any (A : Option Addr) (len cap : Nat) (w : World) (hcode : CodeOk w w.heap.size A len) : Calls Tryz.prog 18 #[.slice A len cap] w (DrewT w) := by
  have hcode2 : CodeOk (w.alloc (.cells (itC 0 ⟨#[]⟩ 0 false 0) 38)) (w.alloc (.cells (itC 0 ⟨#[]⟩ 0 false 0) 38)).heap.size A len := (hcode.below ((Below.refl _ _).alloc (Nat.le_refl _) _)).more (by simp)
  have HN := Lib.hid (new_any A len cap _ hcode2)
  clear hcode hcode2
  go_enter Tryz.func18, Tryz.ntmps18
  go_wp2_with fail
  refine HN.out.mono ?_
  rintro e w1 ⟨g, rfl, hg, hc1, hb1⟩
  have hgw : w.heap.size < g := by simp at hg; omega
  have kr1 := (Blk.new w 38 (itC 0 ⟨#[]⟩ 0 false 0)).below hb1 (by simp)
  have HB1 := Lib.hid (((Below.refl w.heap.size w).alloc (Nat.le_refl _) _).trans (hb1.mono (by simp)))
  have HD := Lib.hid (drawany_any g w1 hc1)
  have KR1 := Lib.hid kr1
  have HGW := Lib.hid hgw
  clear hb1 hc1 hg kr1 HN hgw
  go_wp2_with fail
  refine HD.out.mono ?_
  rintro e w2 ⟨it, rfl, hin, hsz, hc2, hg2⟩
  obtain ⟨k, nm, n, x, r⟩ := it
  have kr2 := KR1.out.grown hg2 (fun e => by have := Option.some.inj e; have := HGW.out; omega)
  have HB2 := Lib.hid (HB1.out.trans (below_of_only hg2 HB1.out.size (by have := HGW.out; omega)))
  have HIN := Lib.hid hin
  have HSZ := Lib.hid hsz
  obtain ⟨d0, d1, d2, d3, d4, f0, f1, f2, f3, f4⟩ := itC_cells kr2
  have hrl := kr2.lt
  have KR2 := Lib.hid kr2
  clear hin hsz hc2 hg2 kr2 HD HB1 KR1
  go_wp2_with fail
  have hk := putAll_blk KR2.out k nm n x (r : Int)
  have hbl := putAll_below (g := w.heap.size) HB2.out (Nat.le_refl _) k nm n x (r : Int)
  show bodyPost _ _ _ _ _ (putAll w2 w.heap.size k nm n x (r : Int))
  generalize putAll w2 w.heap.size k nm n x (r : Int) = W5 at hk hbl ⊢
  obtain ⟨e0, e1, e2, e3, e4, -⟩ := itC_cells hk
  clear hk
  exact bodyPost_ret (v := itA k nm n x (r : Int)) (by simp [results, Tryz.results18, e0, e1, e2, e3, e4, go_sem]) rfl ⟨⟨k, nm, n, x, r⟩, rfl, HIN.out, HSZ.out, hbl⟩
end Go.Proofs.YtogdbfjagnbllaaGreatDoor
