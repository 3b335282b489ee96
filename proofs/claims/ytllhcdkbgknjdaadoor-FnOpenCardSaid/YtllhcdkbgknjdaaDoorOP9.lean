/-
  The model's CellsOf at a number: how many cells there are.
  The model's CellsOf at a word, and at no kind: how many cells there are.
  The model's CellsOf at a variable: how many cells there are.
  CellsOf and ItemOk of the model: how many cells an item has.
  Recolor of the model.
  The model's draws of items, of an item and a kind.
  Stores as values; the laws' own helpers on stores.
  The sum of cells and the bytes of a store, as plain functions: a sum tells any one cell; bytes that are turned in one place are those of no store.
-/
import Derived.Test.YtllhcdkbgknjdaaDoorOP8
import Derived.Handy
import Derived.Test.YtllhcdkbgknjdaaDoorOP3
import Derived.Deep.RegionWith
import Derived.Test.YtllhcdkbgknjdaaDoorOP2
import Derived.Deep.Onto
import Derived.Lib.SmallJoins
import Derived.Test.YtllhcdkbgknjdaaDoorOP1
namespace Go.Proofs.YtllhcdkbgknjdaaDoor
open Go.RowKit Go

set_option maxHeartbeats 1000000 in
theorem sc_n8_NVZE (n : Int) (hn : (n == 0) = false) (x : Bool) (m : Nat) (HN : Hid (∀ W, Calls Tryd.prog 63 #[.int .i32 n, .bool x, .int .u32 6, .int .u32 5] W (NewLen W m))) (w : World) : Calls Tryd.prog 46 #[itA 8 ⟨#[]⟩ n x 0] w (NewLen w m) := by
  go_enter Tryd.func46, Tryd.ntmps46
  go_wp2_with fail
  refine (HN.out _).mono ?_
  rintro e w3 ⟨v, zs, rfl, hl, hz, hown, hb3⟩
  have HE := Lib.hid (show NewLen w m (.returned v) w3 from ⟨v, zs, rfl, hl, hz, own_base hown (by simp), (((Below.refl w.heap.size w).alloc (Nat.le_refl _) _).trans (hb3.mono (by simp)))⟩)
  clear hl hz hown hb3
  go_wp2_with fail
  go_ret
  exact HE.out

set_option maxHeartbeats 1000000 in
theorem sc_n8_NVNE (n : Int) (hn : (n == 0) = false) (x : Bool) (r : Nat) (hr : ((r : Int) == 0) = false) (w : World) : Calls Tryd.prog 46 #[itA 8 ⟨#[]⟩ n x (r : Int)] w (NewLen w 0) := by
  go_enter Tryd.func46, Tryd.ntmps46
  go_wp2_with fail
  go_ret
  exact new_emp (by simp) (by go_grown)

set_option maxHeartbeats 1000000 in
theorem sc_n8_NVVN (nm : ByteArray) (hnm : nm.toList.isEmpty = false) (n : Int) (hn : (n == 0) = false) (x : Bool) (r : Nat) (w : World) : Calls Tryd.prog 46 #[itA 8 nm n x (r : Int)] w (NewLen w 0) := by
  go_enter Tryd.func46, Tryd.ntmps46
  go_wp2_with fail
  go_ret
  exact new_emp (by simp) (by go_grown)

set_option maxHeartbeats 1000000 in
theorem sc_n8_ZTZE (m : Nat) (HN : Hid (∀ W, Calls Tryd.prog 63 #[.int .i32 0, .bool true, .int .u32 6, .int .u32 5] W (NewLen W m))) (w : World) : Calls Tryd.prog 46 #[itA 8 ⟨#[]⟩ 0 true 0] w (NewLen w m) := by
  go_enter Tryd.func46, Tryd.ntmps46
  go_wp2_with fail
  refine (HN.out _).mono ?_
  rintro e w3 ⟨v, zs, rfl, hl, hz, hown, hb3⟩
  have HE := Lib.hid (show NewLen w m (.returned v) w3 from ⟨v, zs, rfl, hl, hz, own_base hown (by simp), (((Below.refl w.heap.size w).alloc (Nat.le_refl _) _).trans (hb3.mono (by simp)))⟩)
  clear hl hz hown hb3
  go_wp2_with fail
  go_ret
  exact HE.out

set_option maxHeartbeats 1000000 in
theorem sc_n8_ZTNE (r : Nat) (hr : ((r : Int) == 0) = false) (w : World) : Calls Tryd.prog 46 #[itA 8 ⟨#[]⟩ 0 true (r : Int)] w (NewLen w 0) := by
  go_enter Tryd.func46, Tryd.ntmps46
  go_wp2_with fail
  go_ret
  exact new_emp (by simp) (by go_grown)

set_option maxHeartbeats 1000000 in
theorem sc_n8_ZTVN (nm : ByteArray) (hnm : nm.toList.isEmpty = false) (r : Nat) (w : World) : Calls Tryd.prog 46 #[itA 8 nm 0 true (r : Int)] w (NewLen w 0) := by
  go_enter Tryd.func46, Tryd.ntmps46
  go_wp2_with fail
  go_ret
  exact new_emp (by simp) (by go_grown)

set_option maxHeartbeats 1000000 in
theorem sc_n8_ZFNE (r : Nat) (hr : ((r : Int) == 0) = false) (w : World) : Calls Tryd.prog 46 #[itA 8 ⟨#[]⟩ 0 false (r : Int)] w (NewLen w 0) := by
  go_enter Tryd.func46, Tryd.ntmps46
  go_wp2_with fail
  go_ret
  exact new_emp (by simp) (by go_grown)

set_option maxHeartbeats 1000000 in
theorem sc_n8_ZFNN (nm : ByteArray) (hnm : nm.toList.isEmpty = false) (r : Nat) (hr : ((r : Int) == 0) = false) (w : World) : Calls Tryd.prog 46 #[itA 8 nm 0 false (r : Int)] w (NewLen w 0) := by
  go_enter Tryd.func46, Tryd.ntmps46
  go_wp2_with fail
  go_ret
  exact new_emp (by simp) (by go_grown)

set_option maxHeartbeats 1000000 in
theorem sc_n8_ZFZE (m : Nat) (HN : Hid (∀ W, Calls Tryd.prog 63 #[.int .i32 0, .bool false, .int .u32 6, .int .u32 5] W (NewLen W m))) (w : World) : Calls Tryd.prog 46 #[itA 8 ⟨#[]⟩ 0 false 0] w (NewLen w m) := by
  go_enter Tryd.func46, Tryd.ntmps46
  go_wp2_with fail
  refine (HN.out _).mono ?_
  rintro e w3 ⟨v, zs, rfl, hl, hz, hown, hb3⟩
  have HE := Lib.hid (show NewLen w m (.returned v) w3 from ⟨v, zs, rfl, hl, hz, own_base hown (by simp), (((Below.refl w.heap.size w).alloc (Nat.le_refl _) _).trans (hb3.mono (by simp)))⟩)
  clear hl hz hown hb3
  go_wp2_with fail
  go_ret
  exact HE.out

set_option maxHeartbeats 1000000 in
theorem sc_n8_ZFZN (nm : ByteArray) (hnm : nm.toList.isEmpty = false) (w : World) : Calls Tryd.prog 46 #[itA 8 nm 0 false 0] w (NewLen w 0) := by
  go_enter Tryd.func46, Tryd.ntmps46
  go_wp2_with fail
  go_ret
  exact new_emp (by simp) (by go_grown)

end Go.Proofs.YtllhcdkbgknjdaaDoor

namespace Go.Proofs.YtllhcdkbgknjdaaDoor
open Go.RowKit Go

set_option maxHeartbeats 1000000 in
theorem sc_word_NVV (k : Int) (h : wordK k = true) (nm : ByteArray) (n : Int) (hn : (n == 0) = false) (x : Bool) (r : Nat) (w : World) : Calls Tryd.prog 46 #[itA k nm n x (r : Int)] w (NewLen w 0) := by
  have hk := of_decide_eq_true h
  have b0 : (k == 0) = false := by simp; omega
  have b7 : (k == 7) = false := by simp; omega
  have b8 : (k == 8) = false := by simp; omega
  have b9 : (k == 9) = false := by simp; omega
  have HT := Lib.hid (fun W => spec_tag k W)
  have ht : 0 < tagW k := by
    unfold tagW
    (repeat' split) <;> omega
  obtain ⟨t, htt⟩ : ∃ t, tagW k = t := ⟨_, rfl⟩
  rw [htt] at HT ht
  clear h hk htt
  go_enter Tryd.func46, Tryd.ntmps46
  go_wp2_with fail
  refine (HT.out _).mono ?_
  rintro e w' ⟨rfl, rfl⟩
  go_wp2_with fail
  go_ret
  exact new_emp (by simp) (by go_grown)

set_option maxHeartbeats 1000000 in
theorem sc_word_ZTV (k : Int) (h : wordK k = true) (nm : ByteArray) (r : Nat) (w : World) : Calls Tryd.prog 46 #[itA k nm 0 true (r : Int)] w (NewLen w 0) := by
  have hk := of_decide_eq_true h
  have b0 : (k == 0) = false := by simp; omega
  have b7 : (k == 7) = false := by simp; omega
  have b8 : (k == 8) = false := by simp; omega
  have b9 : (k == 9) = false := by simp; omega
  have HT := Lib.hid (fun W => spec_tag k W)
  have ht : 0 < tagW k := by
    unfold tagW
    (repeat' split) <;> omega
  obtain ⟨t, htt⟩ : ∃ t, tagW k = t := ⟨_, rfl⟩
  rw [htt] at HT ht
  clear h hk htt
  go_enter Tryd.func46, Tryd.ntmps46
  go_wp2_with fail
  refine (HT.out _).mono ?_
  rintro e w' ⟨rfl, rfl⟩
  go_wp2_with fail
  go_ret
  exact new_emp (by simp) (by go_grown)

set_option maxHeartbeats 1000000 in
theorem sc_word_ZFN (k : Int) (h : wordK k = true) (nm : ByteArray) (r : Nat) (hr : ((r : Int) == 0) = false) (w : World) : Calls Tryd.prog 46 #[itA k nm 0 false (r : Int)] w (NewLen w 0) := by
  have hk := of_decide_eq_true h
  have b0 : (k == 0) = false := by simp; omega
  have b7 : (k == 7) = false := by simp; omega
  have b8 : (k == 8) = false := by simp; omega
  have b9 : (k == 9) = false := by simp; omega
  have HT := Lib.hid (fun W => spec_tag k W)
  have ht : 0 < tagW k := by
    unfold tagW
    (repeat' split) <;> omega
  obtain ⟨t, htt⟩ : ∃ t, tagW k = t := ⟨_, rfl⟩
  rw [htt] at HT ht
  clear h hk htt
  go_enter Tryd.func46, Tryd.ntmps46
  go_wp2_with fail
  refine (HT.out _).mono ?_
  rintro e w' ⟨rfl, rfl⟩
  go_wp2_with fail
  go_ret
  exact new_emp (by simp) (by go_grown)

set_option maxHeartbeats 1000000 in
theorem sc_word_ZFZ (k : Int) (h : wordK k = true) (nm : ByteArray) (hs : nm.size ≤ 4611686018427387904) (w : World) : Calls Tryd.prog 46 #[itA k nm 0 false 0] w (NewLen w (packs nm.data.toList).length) := by
  have hk := of_decide_eq_true h
  have b0 : (k == 0) = false := by simp; omega
  have b7 : (k == 7) = false := by simp; omega
  have b8 : (k == 8) = false := by simp; omega
  have b9 : (k == 9) = false := by simp; omega
  have HT := Lib.hid (fun W => spec_tag k W)
  have ht : 0 < tagW k := by
    unfold tagW
    (repeat' split) <;> omega
  have HWD := Lib.hid (fun t W => spec_word t nm hs W)
  clear hs
  obtain ⟨t, htt⟩ : ∃ t, tagW k = t := ⟨_, rfl⟩
  rw [htt] at HT ht
  clear h hk htt
  go_enter Tryd.func46, Tryd.ntmps46
  go_wp2_with fail
  refine (HT.out _).mono ?_
  rintro e w' ⟨rfl, rfl⟩
  go_wp2_with fail
  refine (HWD.out _ _).mono ?_
  rintro e w3 ⟨v, zs, rfl, hl, hz, hown, hb3⟩
  have HE := Lib.hid (show NewLen w (packs nm.data.toList).length (.returned v) w3 from ⟨v, zs, rfl, hl, hz, own_base hown (by simp), (((Below.refl w.heap.size w).alloc (Nat.le_refl _) _).trans (hb3.mono (by simp)))⟩)
  clear hl hz hown hb3
  go_wp2_with fail
  go_ret
  exact HE.out

set_option maxHeartbeats 1000000 in
theorem sc_else_NVV (k : Int) (h : ¬ (0 ≤ k ∧ k ≤ 9)) (nm : ByteArray) (n : Int) (hn : (n == 0) = false) (x : Bool) (r : Nat) (w : World) : Calls Tryd.prog 46 #[itA k nm n x (r : Int)] w (NewLen w 0) := by
  have b0 : (k == 0) = false := by simp; omega
  have b7 : (k == 7) = false := by simp; omega
  have b8 : (k == 8) = false := by simp; omega
  have b9 : (k == 9) = false := by simp; omega
  have ht : tagW k = 0 := by unfold tagW; rw [if_neg (by omega), if_neg (by omega), if_neg (by omega), if_neg (by omega), if_neg (by omega), if_neg (by omega)]
  have HT := Lib.hid (fun W => spec_tag k W)
  rw [ht] at HT
  clear h ht
  go_enter Tryd.func46, Tryd.ntmps46
  go_wp2_with fail
  refine (HT.out _).mono ?_
  rintro e w' ⟨rfl, rfl⟩
  go_wp2_with fail
  go_ret
  exact new_emp (by simp) (by go_grown)

set_option maxHeartbeats 1000000 in
theorem sc_else_ZTV (k : Int) (h : ¬ (0 ≤ k ∧ k ≤ 9)) (nm : ByteArray) (r : Nat) (w : World) : Calls Tryd.prog 46 #[itA k nm 0 true (r : Int)] w (NewLen w 0) := by
  have b0 : (k == 0) = false := by simp; omega
  have b7 : (k == 7) = false := by simp; omega
  have b8 : (k == 8) = false := by simp; omega
  have b9 : (k == 9) = false := by simp; omega
  have ht : tagW k = 0 := by unfold tagW; rw [if_neg (by omega), if_neg (by omega), if_neg (by omega), if_neg (by omega), if_neg (by omega), if_neg (by omega)]
  have HT := Lib.hid (fun W => spec_tag k W)
  rw [ht] at HT
  clear h ht
  go_enter Tryd.func46, Tryd.ntmps46
  go_wp2_with fail
  refine (HT.out _).mono ?_
  rintro e w' ⟨rfl, rfl⟩
  go_wp2_with fail
  go_ret
  exact new_emp (by simp) (by go_grown)

set_option maxHeartbeats 1000000 in
theorem sc_else_ZFN (k : Int) (h : ¬ (0 ≤ k ∧ k ≤ 9)) (nm : ByteArray) (r : Nat) (hr : ((r : Int) == 0) = false) (w : World) : Calls Tryd.prog 46 #[itA k nm 0 false (r : Int)] w (NewLen w 0) := by
  have b0 : (k == 0) = false := by simp; omega
  have b7 : (k == 7) = false := by simp; omega
  have b8 : (k == 8) = false := by simp; omega
  have b9 : (k == 9) = false := by simp; omega
  have ht : tagW k = 0 := by unfold tagW; rw [if_neg (by omega), if_neg (by omega), if_neg (by omega), if_neg (by omega), if_neg (by omega), if_neg (by omega)]
  have HT := Lib.hid (fun W => spec_tag k W)
  rw [ht] at HT
  clear h ht
  go_enter Tryd.func46, Tryd.ntmps46
  go_wp2_with fail
  refine (HT.out _).mono ?_
  rintro e w' ⟨rfl, rfl⟩
  go_wp2_with fail
  go_ret
  exact new_emp (by simp) (by go_grown)

set_option maxHeartbeats 1000000 in
theorem sc_else_ZFZ (k : Int) (h : ¬ (0 ≤ k ∧ k ≤ 9)) (nm : ByteArray) (w : World) : Calls Tryd.prog 46 #[itA k nm 0 false 0] w (NewLen w 0) := by
  have b0 : (k == 0) = false := by simp; omega
  have b7 : (k == 7) = false := by simp; omega
  have b8 : (k == 8) = false := by simp; omega
  have b9 : (k == 9) = false := by simp; omega
  have ht : tagW k = 0 := by unfold tagW; rw [if_neg (by omega), if_neg (by omega), if_neg (by omega), if_neg (by omega), if_neg (by omega), if_neg (by omega)]
  have HT := Lib.hid (fun W => spec_tag k W)
  rw [ht] at HT
  clear h ht
  go_enter Tryd.func46, Tryd.ntmps46
  go_wp2_with fail
  refine (HT.out _).mono ?_
  rintro e w' ⟨rfl, rfl⟩
  go_wp2_with fail
  go_ret
  exact new_emp (by simp) (by go_grown)

end Go.Proofs.YtllhcdkbgknjdaaDoor

namespace Go.Proofs.YtllhcdkbgknjdaaDoor
open Go.RowKit Go

set_option maxHeartbeats 1000000 in
theorem sc_var_NTV (nm : ByteArray) (n : Int) (hn : (n == 0) = false) (r : Nat) (m : Nat) (h1 : m = 1) (HWD : Hid (∀ W, Calls Tryd.prog 64 #[.int .u32 12, .string nm] W (NewLen W m))) (w : World) : Calls Tryd.prog 46 #[itA 9 nm n true (r : Int)] w (NewLen w 0) := by
  subst h1
  go_enter Tryd.func46, Tryd.ntmps46
  go_wp2_with fail
  refine (HWD.out _).mono ?_
  rintro e w3 ⟨v, zs, rfl, hl, hz, hown, hb3⟩
  have HE := Lib.hid (show w3.ownsRow w.heap.size 51 1 v zs.length (zs.map u32v) ∧ (∀ z ∈ zs, z < 4294967296) ∧ Below w.heap.size w w3 from ⟨own_base hown (by simp), hz, (((Below.refl w.heap.size w).alloc (Nat.le_refl _) _).trans (hb3.mono (by simp)))⟩)
  obtain ⟨A, cap, rfl⟩ := own_slice hown
  have hb4 : Below (w.heap.size + 1) (w.alloc (.cells #[.int .i64 9, .string nm, .int .i32 n, .bool true, .int .u32 (r : Int)] 57)) w3 := hb3.mono (by simp)
  obtain ⟨c0, c1, c2, c3, c4⟩ := it_box hb4
  have HL := Lib.hid hl
  rw [hl]
  clear hl hz hb3 hb4 hown
  go_wp2_with fail
  go_ret
  exact ⟨_, [], rfl, rfl, fun _ hz => absurd hz List.not_mem_nil, own_base (own_empty _ _) HE.out.2.2.size, HE.out.2.2.alloc HE.out.2.2.size _⟩

set_option maxHeartbeats 1000000 in
theorem sc_var_NFZ (nm : ByteArray) (n : Int) (hn : (n == 0) = false) (m : Nat) (h1 : m = 1) (HWD : Hid (∀ W, Calls Tryd.prog 64 #[.int .u32 12, .string nm] W (NewLen W m))) (w : World) : Calls Tryd.prog 46 #[itA 9 nm n false 0] w (NewLen w 2) := by
  obtain ⟨i0, hi, hz0, hz1, hz2⟩ := info_parts infoU32
  subst h1
  go_enter Tryd.func46, Tryd.ntmps46
  go_wp2_with fail
  refine (HWD.out _).mono ?_
  rintro e w3 ⟨v, zs, rfl, hl, hz, hown, hb3⟩
  have HE := Lib.hid (show w3.ownsRow w.heap.size 51 1 v zs.length (zs.map u32v) ∧ (∀ z ∈ zs, z < 4294967296) ∧ Below w.heap.size w w3 from ⟨own_base hown (by simp), hz, (((Below.refl w.heap.size w).alloc (Nat.le_refl _) _).trans (hb3.mono (by simp)))⟩)
  obtain ⟨A, cap, rfl⟩ := own_slice hown
  have hb4 : Below (w.heap.size + 1) (w.alloc (.cells #[.int .i64 9, .string nm, .int .i32 n, .bool false, .int .u32 0] 57)) w3 := hb3.mono (by simp)
  obtain ⟨c0, c1, c2, c3, c4⟩ := it_box hb4
  have hlt : w.heap.size < w3.heap.size := by have := hb3.size; simp at this; omega
  have hown2 := own_base hown (show w.heap.size ≤ _ by simp)
  rw [hl] at hown2
  rw [hl]
  obtain ⟨y, hy, hyl⟩ := u32_some (n)
  have HYL := Lib.hid hyl
  have HL := Lib.hid hl
  clear hl hz hb3 hb4 hyl hown
  go_wp2_with (at_builtin; refine wpList_append_own _ rfl _ _ 24 rfl w.heap.size 51 i0 (.int .u32 0) 1 4 Tryd.underlying24 hi hz0 hz1 hz2 rfl (by decide) _ _ _ rfl (hown2.alloc _) ⟨w3.heap.size, 0, none⟩ 1 1 [.int .u32 (y : Int)] rfl rfl (cell_one_new _ _ _) (by simp [Value.oneCell']) (by unfold maxLen; omega) (by omega) (by simp; omega) ?_; intro v' w4 hown' hgrow _)
  go_ret
  exact ⟨v', zs ++ [y], rfl, by rw [List.length_append, HL.out]; rfl, (snoc_len (pre := zs) (p := 0) ⟨rfl, HE.out.2.1⟩ HYL.out).2, by rw [List.length_append, HL.out, List.map_append]; exact hown', (HE.out.2.2.alloc HE.out.2.2.size _).grown hgrow (by simp; omega) (own_lt hown2)⟩

set_option maxHeartbeats 1000000 in
theorem sc_var_NFN (nm : ByteArray) (n : Int) (hn : (n == 0) = false) (r : Nat) (hr : ((r : Int) == 0) = false) (m : Nat) (h1 : m = 1) (HWD : Hid (∀ W, Calls Tryd.prog 64 #[.int .u32 12, .string nm] W (NewLen W m))) (w : World) : Calls Tryd.prog 46 #[itA 9 nm n false (r : Int)] w (NewLen w 0) := by
  subst h1
  go_enter Tryd.func46, Tryd.ntmps46
  go_wp2_with fail
  refine (HWD.out _).mono ?_
  rintro e w3 ⟨v, zs, rfl, hl, hz, hown, hb3⟩
  have HE := Lib.hid (show w3.ownsRow w.heap.size 51 1 v zs.length (zs.map u32v) ∧ (∀ z ∈ zs, z < 4294967296) ∧ Below w.heap.size w w3 from ⟨own_base hown (by simp), hz, (((Below.refl w.heap.size w).alloc (Nat.le_refl _) _).trans (hb3.mono (by simp)))⟩)
  obtain ⟨A, cap, rfl⟩ := own_slice hown
  have hb4 : Below (w.heap.size + 1) (w.alloc (.cells #[.int .i64 9, .string nm, .int .i32 n, .bool false, .int .u32 (r : Int)] 57)) w3 := hb3.mono (by simp)
  obtain ⟨c0, c1, c2, c3, c4⟩ := it_box hb4
  have HL := Lib.hid hl
  rw [hl]
  clear hl hz hb3 hb4 hown
  go_wp2_with fail
  go_ret
  exact ⟨_, [], rfl, rfl, fun _ hz => absurd hz List.not_mem_nil, own_base (own_empty _ _) HE.out.2.2.size, HE.out.2.2.alloc HE.out.2.2.size _⟩

set_option maxHeartbeats 1000000 in
theorem sc_var_ZTV (nm : ByteArray) (r : Nat) (m : Nat) (h1 : m = 1) (HWD : Hid (∀ W, Calls Tryd.prog 64 #[.int .u32 12, .string nm] W (NewLen W m))) (w : World) : Calls Tryd.prog 46 #[itA 9 nm 0 true (r : Int)] w (NewLen w 0) := by
  subst h1
  go_enter Tryd.func46, Tryd.ntmps46
  go_wp2_with fail
  refine (HWD.out _).mono ?_
  rintro e w3 ⟨v, zs, rfl, hl, hz, hown, hb3⟩
  have HE := Lib.hid (show w3.ownsRow w.heap.size 51 1 v zs.length (zs.map u32v) ∧ (∀ z ∈ zs, z < 4294967296) ∧ Below w.heap.size w w3 from ⟨own_base hown (by simp), hz, (((Below.refl w.heap.size w).alloc (Nat.le_refl _) _).trans (hb3.mono (by simp)))⟩)
  obtain ⟨A, cap, rfl⟩ := own_slice hown
  have hb4 : Below (w.heap.size + 1) (w.alloc (.cells #[.int .i64 9, .string nm, .int .i32 0, .bool true, .int .u32 (r : Int)] 57)) w3 := hb3.mono (by simp)
  obtain ⟨c0, c1, c2, c3, c4⟩ := it_box hb4
  have HL := Lib.hid hl
  rw [hl]
  clear hl hz hb3 hb4 hown
  go_wp2_with fail
  go_ret
  exact ⟨_, [], rfl, rfl, fun _ hz => absurd hz List.not_mem_nil, own_base (own_empty _ _) HE.out.2.2.size, HE.out.2.2.alloc HE.out.2.2.size _⟩

set_option maxHeartbeats 1000000 in
theorem sc_var_ZFN (nm : ByteArray) (r : Nat) (hr : ((r : Int) == 0) = false) (m : Nat) (h1 : m = 1) (HWD : Hid (∀ W, Calls Tryd.prog 64 #[.int .u32 12, .string nm] W (NewLen W m))) (w : World) : Calls Tryd.prog 46 #[itA 9 nm 0 false (r : Int)] w (NewLen w 0) := by
  subst h1
  go_enter Tryd.func46, Tryd.ntmps46
  go_wp2_with fail
  refine (HWD.out _).mono ?_
  rintro e w3 ⟨v, zs, rfl, hl, hz, hown, hb3⟩
  have HE := Lib.hid (show w3.ownsRow w.heap.size 51 1 v zs.length (zs.map u32v) ∧ (∀ z ∈ zs, z < 4294967296) ∧ Below w.heap.size w w3 from ⟨own_base hown (by simp), hz, (((Below.refl w.heap.size w).alloc (Nat.le_refl _) _).trans (hb3.mono (by simp)))⟩)
  obtain ⟨A, cap, rfl⟩ := own_slice hown
  have hb4 : Below (w.heap.size + 1) (w.alloc (.cells #[.int .i64 9, .string nm, .int .i32 0, .bool false, .int .u32 (r : Int)] 57)) w3 := hb3.mono (by simp)
  obtain ⟨c0, c1, c2, c3, c4⟩ := it_box hb4
  have HL := Lib.hid hl
  rw [hl]
  clear hl hz hb3 hb4 hown
  go_wp2_with fail
  go_ret
  exact ⟨_, [], rfl, rfl, fun _ hz => absurd hz List.not_mem_nil, own_base (own_empty _ _) HE.out.2.2.size, HE.out.2.2.alloc HE.out.2.2.size _⟩

set_option maxHeartbeats 1000000 in
theorem sc_var_ZFZ (nm : ByteArray) (m : Nat) (h1 : m = 1) (HWD : Hid (∀ W, Calls Tryd.prog 64 #[.int .u32 12, .string nm] W (NewLen W m))) (w : World) : Calls Tryd.prog 46 #[itA 9 nm 0 false 0] w (NewLen w 2) := by
  obtain ⟨i0, hi, hz0, hz1, hz2⟩ := info_parts infoU32
  subst h1
  go_enter Tryd.func46, Tryd.ntmps46
  go_wp2_with fail
  refine (HWD.out _).mono ?_
  rintro e w3 ⟨v, zs, rfl, hl, hz, hown, hb3⟩
  have HE := Lib.hid (show w3.ownsRow w.heap.size 51 1 v zs.length (zs.map u32v) ∧ (∀ z ∈ zs, z < 4294967296) ∧ Below w.heap.size w w3 from ⟨own_base hown (by simp), hz, (((Below.refl w.heap.size w).alloc (Nat.le_refl _) _).trans (hb3.mono (by simp)))⟩)
  obtain ⟨A, cap, rfl⟩ := own_slice hown
  have hb4 : Below (w.heap.size + 1) (w.alloc (.cells #[.int .i64 9, .string nm, .int .i32 0, .bool false, .int .u32 0] 57)) w3 := hb3.mono (by simp)
  obtain ⟨c0, c1, c2, c3, c4⟩ := it_box hb4
  have hlt : w.heap.size < w3.heap.size := by have := hb3.size; simp at this; omega
  have hown2 := own_base hown (show w.heap.size ≤ _ by simp)
  rw [hl] at hown2
  rw [hl]
  obtain ⟨y, hy, hyl⟩ := u32_some (0)
  have HYL := Lib.hid hyl
  have HL := Lib.hid hl
  clear hl hz hb3 hb4 hyl hown
  go_wp2_with (at_builtin; refine wpList_append_own _ rfl _ _ 24 rfl w.heap.size 51 i0 (.int .u32 0) 1 4 Tryd.underlying24 hi hz0 hz1 hz2 rfl (by decide) _ _ _ rfl (hown2.alloc _) ⟨w3.heap.size, 0, none⟩ 1 1 [.int .u32 (y : Int)] rfl rfl (cell_one_new _ _ _) (by simp [Value.oneCell']) (by unfold maxLen; omega) (by omega) (by simp; omega) ?_; intro v' w4 hown' hgrow _)
  go_ret
  exact ⟨v', zs ++ [y], rfl, by rw [List.length_append, HL.out]; rfl, (snoc_len (pre := zs) (p := 0) ⟨rfl, HE.out.2.1⟩ HYL.out).2, by rw [List.length_append, HL.out, List.map_append]; exact hown', (HE.out.2.2.alloc HE.out.2.2.size _).grown hgrow (by simp; omega) (own_lt hown2)⟩

set_option maxHeartbeats 1000000 in
theorem sc_vno_NVV (nm : ByteArray) (n : Int) (hn : (n == 0) = false) (x : Bool) (r : Nat) (m : Nat) (h1 : m ≠ 1) (HWD : Hid (∀ W, Calls Tryd.prog 64 #[.int .u32 12, .string nm] W (NewLen W m))) (w : World) : Calls Tryd.prog 46 #[itA 9 nm n x (r : Int)] w (NewLen w 0) := by
  go_enter Tryd.func46, Tryd.ntmps46
  go_wp2_with fail
  refine (HWD.out _).mono ?_
  rintro e w3 ⟨v, zs, rfl, hl, hz, hown, hb3⟩
  have HE := Lib.hid (show w3.ownsRow w.heap.size 51 1 v zs.length (zs.map u32v) ∧ (∀ z ∈ zs, z < 4294967296) ∧ Below w.heap.size w w3 from ⟨own_base hown (by simp), hz, (((Below.refl w.heap.size w).alloc (Nat.le_refl _) _).trans (hb3.mono (by simp)))⟩)
  obtain ⟨A, cap, rfl⟩ := own_slice hown
  have hne : ((zs.length : Int) == 1) = false := by simp; omega
  clear hl hz hb3 hown h1
  go_wp2_with fail
  go_ret
  exact ⟨_, [], rfl, rfl, fun _ hz => absurd hz List.not_mem_nil, own_base (own_empty _ _) HE.out.2.2.size, HE.out.2.2.alloc HE.out.2.2.size _⟩

set_option maxHeartbeats 1000000 in
theorem sc_vno_ZTV (nm : ByteArray) (r : Nat) (m : Nat) (h1 : m ≠ 1) (HWD : Hid (∀ W, Calls Tryd.prog 64 #[.int .u32 12, .string nm] W (NewLen W m))) (w : World) : Calls Tryd.prog 46 #[itA 9 nm 0 true (r : Int)] w (NewLen w 0) := by
  go_enter Tryd.func46, Tryd.ntmps46
  go_wp2_with fail
  refine (HWD.out _).mono ?_
  rintro e w3 ⟨v, zs, rfl, hl, hz, hown, hb3⟩
  have HE := Lib.hid (show w3.ownsRow w.heap.size 51 1 v zs.length (zs.map u32v) ∧ (∀ z ∈ zs, z < 4294967296) ∧ Below w.heap.size w w3 from ⟨own_base hown (by simp), hz, (((Below.refl w.heap.size w).alloc (Nat.le_refl _) _).trans (hb3.mono (by simp)))⟩)
  obtain ⟨A, cap, rfl⟩ := own_slice hown
  have hne : ((zs.length : Int) == 1) = false := by simp; omega
  clear hl hz hb3 hown h1
  go_wp2_with fail
  go_ret
  exact ⟨_, [], rfl, rfl, fun _ hz => absurd hz List.not_mem_nil, own_base (own_empty _ _) HE.out.2.2.size, HE.out.2.2.alloc HE.out.2.2.size _⟩

set_option maxHeartbeats 1000000 in
theorem sc_vno_ZFN (nm : ByteArray) (r : Nat) (hr : ((r : Int) == 0) = false) (m : Nat) (h1 : m ≠ 1) (HWD : Hid (∀ W, Calls Tryd.prog 64 #[.int .u32 12, .string nm] W (NewLen W m))) (w : World) : Calls Tryd.prog 46 #[itA 9 nm 0 false (r : Int)] w (NewLen w 0) := by
  go_enter Tryd.func46, Tryd.ntmps46
  go_wp2_with fail
  refine (HWD.out _).mono ?_
  rintro e w3 ⟨v, zs, rfl, hl, hz, hown, hb3⟩
  have HE := Lib.hid (show w3.ownsRow w.heap.size 51 1 v zs.length (zs.map u32v) ∧ (∀ z ∈ zs, z < 4294967296) ∧ Below w.heap.size w w3 from ⟨own_base hown (by simp), hz, (((Below.refl w.heap.size w).alloc (Nat.le_refl _) _).trans (hb3.mono (by simp)))⟩)
  obtain ⟨A, cap, rfl⟩ := own_slice hown
  have hne : ((zs.length : Int) == 1) = false := by simp; omega
  clear hl hz hb3 hown h1
  go_wp2_with fail
  go_ret
  exact ⟨_, [], rfl, rfl, fun _ hz => absurd hz List.not_mem_nil, own_base (own_empty _ _) HE.out.2.2.size, HE.out.2.2.alloc HE.out.2.2.size _⟩

set_option maxHeartbeats 1000000 in
theorem sc_vno_ZFZ (nm : ByteArray) (m : Nat) (h1 : m ≠ 1) (HWD : Hid (∀ W, Calls Tryd.prog 64 #[.int .u32 12, .string nm] W (NewLen W m))) (w : World) : Calls Tryd.prog 46 #[itA 9 nm 0 false 0] w (NewLen w 0) := by
  go_enter Tryd.func46, Tryd.ntmps46
  go_wp2_with fail
  refine (HWD.out _).mono ?_
  rintro e w3 ⟨v, zs, rfl, hl, hz, hown, hb3⟩
  have HE := Lib.hid (show w3.ownsRow w.heap.size 51 1 v zs.length (zs.map u32v) ∧ (∀ z ∈ zs, z < 4294967296) ∧ Below w.heap.size w w3 from ⟨own_base hown (by simp), hz, (((Below.refl w.heap.size w).alloc (Nat.le_refl _) _).trans (hb3.mono (by simp)))⟩)
  obtain ⟨A, cap, rfl⟩ := own_slice hown
  have hne : ((zs.length : Int) == 1) = false := by simp; omega
  clear hl hz hb3 hown h1
  go_wp2_with fail
  go_ret
  exact ⟨_, [], rfl, rfl, fun _ hz => absurd hz List.not_mem_nil, own_base (own_empty _ _) HE.out.2.2.size, HE.out.2.2.alloc HE.out.2.2.size _⟩

end Go.Proofs.YtllhcdkbgknjdaaDoor

namespace Go.Proofs.YtllhcdkbgknjdaaDoor
open Go.RowKit Go

theorem txt_ne {nm : ByteArray} (h : ¬ nm = noText) : nm.toList.isEmpty = false := by
  rw [ByteArray.toList_eq]
  cases hq : nm.data.toList with
  | nil =>
    refine absurd ?_ h
    obtain ⟨⟨l⟩⟩ := nm
    simp at hq
    rw [hq]
    rfl
  | cons a b => rfl
theorem int_ne {n : Int} (h : ¬ n = 0) : (n == 0) = false := by simpa using h
theorem nat_ne {r : Nat} (h : ¬ r = 0) : ((r : Int) == 0) = false := by simp; exact h
theorem spec_num (n : Int) (x : Bool) (s l : Nat) (w : World) : Calls Tryd.prog 63 #[.int .i32 n, .bool x, .int .u32 s, .int .u32 l] w (NewLen w (numCells n x s l).length) := by
  unfold numCells
  by_cases h : n < -67108864 ∨ 67108863 < n
  · rw [if_pos (show wideN n = true from decide_eq_true h)]
    exact spec_wide n x s l h w
  · rw [if_neg (by rw [show wideN n = false from decide_eq_false h]; decide)]
    exact spec_narrow n x s l (by omega) (by omega) w
theorem four (n : Int) (x : Bool) (r : Nat) : ¬ n = 0 ∨ (n = 0 ∧ x = true) ∨ (n = 0 ∧ x = false ∧ ¬ r = 0) ∨ (n = 0 ∧ x = false ∧ r = 0) := by
  by_cases h : n = 0
  · cases x with
    | true => exact .inr (.inl ⟨h, rfl⟩)
    | false =>
      by_cases hr : r = 0
      · exact .inr (.inr (.inr ⟨h, rfl, hr⟩))
      · exact .inr (.inr (.inl ⟨h, rfl, hr⟩))
  · exact .inl h
theorem spec_cells_raw (nm : ByteArray) (n : Int) (x : Bool) (r : Nat) (hr4 : r < 4294967296) (w : World) : Calls Tryd.prog 46 #[itA 0 nm n x (r : Int)] w (NewLen w (cellsOf ⟨0, nm, n, x, r⟩).length) := by
  rcases four n x r with hn | ⟨rfl, rfl⟩ | ⟨rfl, rfl, hr⟩ | ⟨rfl, rfl, rfl⟩ <;> by_cases hm : nm = noText
  · subst hm
    rw [show (cellsOf ⟨0, noText, n, x, r⟩).length = 0 by simp [cellsOf, hn]]
    exact sc_raw_NVVE n (int_ne hn) x r w
  · rw [show (cellsOf ⟨0, nm, n, x, r⟩).length = 0 by simp [cellsOf, hn]]
    exact sc_raw_NVVN nm (txt_ne hm) n (int_ne hn) x r w
  · subst hm
    exact sc_raw_ZTVE r w
  · rw [show (cellsOf ⟨0, nm, 0, true, r⟩).length = 0 by simp [cellsOf]]
    exact sc_raw_ZTVN nm (txt_ne hm) r w
  · subst hm
    rw [show (cellsOf ⟨0, noText, 0, false, r⟩).length = 1 by simp [cellsOf]]
    exact sc_raw_ZFNE r (nat_ne hr) hr4 w
  · rw [show (cellsOf ⟨0, nm, 0, false, r⟩).length = 0 by simp [cellsOf, hm]]
    exact sc_raw_ZFNN nm (txt_ne hm) r (nat_ne hr) w
  · subst hm
    exact sc_raw_ZFZE w
  · rw [show (cellsOf ⟨0, nm, 0, false, 0⟩).length = 0 by simp [cellsOf, hm]]
    exact sc_raw_ZFZN nm (txt_ne hm) w
theorem spec_cells_yel (nm : ByteArray) (n : Int) (x : Bool) (r : Nat) (w : World) : Calls Tryd.prog 46 #[itA 7 nm n x (r : Int)] w (NewLen w (cellsOf ⟨7, nm, n, x, r⟩).length) := by
  rw [cells_nums (it := ⟨7, nm, n, x, r⟩) (.inl rfl)]
  have HN := Lib.hid (fun W => spec_num n x 8 2 W)
  by_cases hm : nm = noText
  · subst hm
    by_cases hr0 : r = 0
    · subst hr0
      show Calls _ _ _ _ (NewLen w (numCells n x 8 2).length)
      rcases four n x 0 with hn | ⟨rfl, rfl⟩ | ⟨rfl, rfl, hr⟩ | ⟨rfl, rfl, _⟩
      · exact sc_n7_NVZE n (int_ne hn) x _ HN w
      · exact sc_n7_ZTZE _ HN w
      · exact absurd rfl hr
      · exact sc_n7_ZFZE _ HN w
    · rw [if_neg (fun h => hr0 h.2)]
      rcases four n x r with hn | ⟨rfl, rfl⟩ | ⟨rfl, rfl, hr⟩ | ⟨rfl, rfl, hr⟩
      · exact sc_n7_NVNE n (int_ne hn) x r (nat_ne hr0) w
      · exact sc_n7_ZTNE r (nat_ne hr0) w
      · exact sc_n7_ZFNE r (nat_ne hr0) w
      · exact absurd hr hr0
  · rw [if_neg (fun h => hm h.1)]
    rcases four n x r with hn | ⟨rfl, rfl⟩ | ⟨rfl, rfl, hr⟩ | ⟨rfl, rfl, rfl⟩
    · exact sc_n7_NVVN nm (txt_ne hm) n (int_ne hn) x r w
    · exact sc_n7_ZTVN nm (txt_ne hm) r w
    · exact sc_n7_ZFNN nm (txt_ne hm) r (nat_ne hr) w
    · exact sc_n7_ZFZN nm (txt_ne hm) w
theorem spec_cells_green (nm : ByteArray) (n : Int) (x : Bool) (r : Nat) (w : World) : Calls Tryd.prog 46 #[itA 8 nm n x (r : Int)] w (NewLen w (cellsOf ⟨8, nm, n, x, r⟩).length) := by
  rw [cells_nums (it := ⟨8, nm, n, x, r⟩) (.inr rfl)]
  have HN := Lib.hid (fun W => spec_num n x 6 5 W)
  by_cases hm : nm = noText
  · subst hm
    by_cases hr0 : r = 0
    · subst hr0
      show Calls _ _ _ _ (NewLen w (numCells n x 6 5).length)
      rcases four n x 0 with hn | ⟨rfl, rfl⟩ | ⟨rfl, rfl, hr⟩ | ⟨rfl, rfl, _⟩
      · exact sc_n8_NVZE n (int_ne hn) x _ HN w
      · exact sc_n8_ZTZE _ HN w
      · exact absurd rfl hr
      · exact sc_n8_ZFZE _ HN w
    · rw [if_neg (fun h => hr0 h.2)]
      rcases four n x r with hn | ⟨rfl, rfl⟩ | ⟨rfl, rfl, hr⟩ | ⟨rfl, rfl, hr⟩
      · exact sc_n8_NVNE n (int_ne hn) x r (nat_ne hr0) w
      · exact sc_n8_ZTNE r (nat_ne hr0) w
      · exact sc_n8_ZFNE r (nat_ne hr0) w
      · exact absurd hr hr0
  · rw [if_neg (fun h => hm h.1)]
    rcases four n x r with hn | ⟨rfl, rfl⟩ | ⟨rfl, rfl, hr⟩ | ⟨rfl, rfl, rfl⟩
    · exact sc_n8_NVVN nm (txt_ne hm) n (int_ne hn) x r w
    · exact sc_n8_ZTVN nm (txt_ne hm) r w
    · exact sc_n8_ZFNN nm (txt_ne hm) r (nat_ne hr) w
    · exact sc_n8_ZFZN nm (txt_ne hm) w
theorem spec_cells_var (nm : ByteArray) (n : Int) (x : Bool) (r : Nat) (hs : nm.size ≤ 4611686018427387904) (w : World) : Calls Tryd.prog 46 #[itA 9 nm n x (r : Int)] w (NewLen w (cellsOf ⟨9, nm, n, x, r⟩).length) := by
  have HW := Lib.hid (fun W => spec_word 12 nm hs W)
  have e : cellsOf ⟨9, nm, n, x, r⟩ = if x = false ∧ r = 0 then varCells (packs nm.data.toList) n else [] := rfl
  rw [e]
  obtain ⟨m, hm⟩ : ∃ m, (packs nm.data.toList).length = m := ⟨_, rfl⟩
  by_cases h1 : m = 1
  · by_cases hy : x = false ∧ r = 0
    · rw [if_pos hy, varCells_count, if_pos (by omega)]
      obtain ⟨rfl, rfl⟩ := hy
      rw [hm] at HW
      by_cases hn : n = 0
      · subst hn
        exact sc_var_ZFZ nm m h1 HW w
      · exact sc_var_NFZ nm n (int_ne hn) m h1 HW w
    · rw [if_neg hy]
      rw [hm] at HW
      rcases four n x r with hn | ⟨rfl, rfl⟩ | ⟨rfl, rfl, hr⟩ | ⟨rfl, rfl, hr⟩
      · cases x with
        | true => exact sc_var_NTV nm n (int_ne hn) r m h1 HW w
        | false => exact sc_var_NFN nm n (int_ne hn) r (nat_ne fun h => hy ⟨rfl, h⟩) m h1 HW w
      · exact sc_var_ZTV nm r m h1 HW w
      · exact sc_var_ZFN nm r (nat_ne hr) m h1 HW w
      · exact absurd ⟨rfl, hr⟩ hy
  · have e0 : (if x = false ∧ r = 0 then varCells (packs nm.data.toList) n else []).length = 0 := by
      split
      · rw [varCells_count, if_neg (by omega)]
      · rfl
    rw [e0]
    rw [hm] at HW
    rcases four n x r with hn | ⟨rfl, rfl⟩ | ⟨rfl, rfl, hr⟩ | ⟨rfl, rfl, rfl⟩
    · exact sc_vno_NVV nm n (int_ne hn) x r m h1 HW w
    · exact sc_vno_ZTV nm r m h1 HW w
    · exact sc_vno_ZFN nm r (nat_ne hr) m h1 HW w
    · exact sc_vno_ZFZ nm m h1 HW w
theorem spec_cellsof (it : It) (hin : ItIn it) (w : World) : Calls Tryd.prog 46 #[itVal it] w (NewLen w (cellsOf it).length) := by
  have hin2 := hin
  obtain ⟨k, nm, n, x, r⟩ := it
  obtain ⟨-, -, -, -, hr4, hs⟩ := hin2
  by_cases h0 : k = 0
  · subst h0; exact spec_cells_raw nm n x r hr4 w
  by_cases h7 : k = 7
  · subst h7; exact spec_cells_yel nm n x r w
  by_cases h8 : k = 8
  · subst h8; exact spec_cells_green nm n x r w
  by_cases h9 : k = 9
  · subst h9; exact spec_cells_var nm n x r hs w
  by_cases hw : 1 ≤ k ∧ k ≤ 6
  · rw [cells_words (it := ⟨k, nm, n, x, r⟩) hw]
    have hw2 : wordK k = true := decide_eq_true hw
    rcases four n x r with hn | ⟨rfl, rfl⟩ | ⟨rfl, rfl, hr⟩ | ⟨rfl, rfl, rfl⟩
    · rw [if_neg (fun h => hn h.1)]
      exact sc_word_NVV k hw2 nm n (int_ne hn) x r w
    · rw [if_neg (fun h => Bool.noConfusion (h.2.1 : true = false))]
      exact sc_word_ZTV k hw2 nm r w
    · rw [if_neg (fun h => hr h.2.2)]
      exact sc_word_ZFN k hw2 nm r (nat_ne hr) w
    · rw [if_pos ⟨rfl, rfl, rfl⟩, wordCells_len]
      exact sc_word_ZFZ k hw2 nm hs w
  · have e : cellsOf ⟨k, nm, n, x, r⟩ = [] := by
      unfold cellsOf
      rw [if_neg h0, if_neg (by show ¬ (k = 7 ∨ k = 8); omega), if_neg h9, if_neg hw]
    rw [e]
    have hk : ¬ (0 ≤ k ∧ k ≤ 9) := by omega
    rcases four n x r with hn | ⟨rfl, rfl⟩ | ⟨rfl, rfl, hr⟩ | ⟨rfl, rfl, rfl⟩
    · exact sc_else_NVV k hk nm n (int_ne hn) x r w
    · exact sc_else_ZTV k hk nm r w
    · exact sc_else_ZFN k hk nm r (nat_ne hr) w
    · exact sc_else_ZFZ k hk nm w
theorem spec_itemok (it : It) (hin : ItIn it) (w : World) : Calls Tryd.prog 36 #[itVal it] w fun e w' => e = .returned (.bool (decide (cellsOf it ≠ []))) ∧ Below w.heap.size w w' := by
  have HC := Lib.hid (fun W => spec_cellsof it hin W)
  obtain ⟨k, nm, n, x, r⟩ := it
  have hd : decide (cellsOf ⟨k, nm, n, x, r⟩ ≠ []) = decide (0 < (cellsOf ⟨k, nm, n, x, r⟩).length) := decide_eq_decide.2 List.length_pos_iff.symm
  rw [hd]
  obtain ⟨m, hm⟩ : ∃ m, (cellsOf ⟨k, nm, n, x, r⟩).length = m := ⟨_, rfl⟩
  rw [hm] at HC ⊢
  clear hm hd hin
  by_cases h0 : 0 < m
  · have e : decide (0 < m) = true := decide_eq_true h0
    rw [e]
    clear e
    go_enter Tryd.func36, Tryd.ntmps36
    go_wp2_with fail
    refine (HC.out _).mono ?_
    rintro e w1 ⟨v, zs, rfl, hl, -, hown, hb⟩
    obtain ⟨A, cap, rfl⟩ := own_slice hown
    have HB := Lib.hid (((Below.refl w.heap.size w).alloc (Nat.le_refl _) _).trans (hb.mono (by simp)))
    subst hl
    clear hown hb HC
    go_wp2_with fail
    go_ret
    exact ⟨rfl, HB.out⟩
  · have e : decide (0 < m) = false := decide_eq_false h0
    rw [e]
    obtain rfl : m = 0 := by omega
    clear e h0
    go_enter Tryd.func36, Tryd.ntmps36
    go_wp2_with fail
    refine (HC.out _).mono ?_
    rintro e w1 ⟨v, zs, rfl, hl, -, hown, hb⟩
    obtain ⟨A, cap, rfl⟩ := own_slice hown
    rw [hl]
    have HB := Lib.hid (((Below.refl w.heap.size w).alloc (Nat.le_refl _) _).trans (hb.mono (by simp)))
    clear hown hb HC hl
    go_wp2_with fail
    go_ret
    exact ⟨rfl, HB.out⟩
end Go.Proofs.YtllhcdkbgknjdaaDoor

namespace Go.Proofs.YtllhcdkbgknjdaaDoor
open Go.RowKit Go

abbrev InC (a lo hi : Int) (b : Bool) : Prop := Hid (∀ W : World, Calls Tryd.prog 89 #[.int .i64 a, .int .i64 lo, .int .i64 hi] W fun e w' => e = .returned (.bool b) ∧ W = w')
abbrev OkC (it : It) (w : World) (b : Bool) : Prop := Hid (∀ W, Below w.heap.size w W → Calls Tryd.prog 36 #[itVal it] W fun e w' => e = .returned (.bool b) ∧ Below W.heap.size W w')

end Go.Proofs.YtllhcdkbgknjdaaDoor

namespace Go.Proofs.YtllhcdkbgknjdaaDoor
open Go.RowKit Go

/-- A number of 32 bits with a sign is drawn. -/
def DrewI (g : Nat) (w : World) (e : Ending) (w' : World) : Prop := ∃ z : Int, e = .returned (.int .i32 z) ∧ (-2147483648 ≤ z ∧ z ≤ 2147483647) ∧ CurAt w' g ∧ w.grownBy w' (some g)
theorem i32_rng (x : Int) : -2147483648 ≤ wrap32 x ∧ wrap32 x ≤ 2147483647 := by unfold wrap32; omega
theorem drewi (g : Nat) (w w' : World) (z : Int) (h : -2147483648 ≤ z ∧ z ≤ 2147483647) (hc : CurAt w' g) (hg : w.grownBy w' (some g)) : DrewI g w (.returned (.int .i32 z)) w' := ⟨z, rfl, h, hc, hg⟩

set_option maxHeartbeats 2000000 in
theorem drawint_any (g : Nat) (w : World) (hc : CurAt w g) : Calls Tryd.prog 66 #[.pointer (some ⟨g, 0, none⟩)] w (DrewI g w) := by
  have hgl := cur_lt hc
  have HO := Lib.hid (once_any g 2 (by decide) w hc)
  clear hc
  go_enter Tryd.func66, Tryd.ntmps66
  go_wp2_with fail
  refine HO.out.mono ?_
  rintro e w1 ⟨b, rfl, hc1, hg1⟩
  have hgl1 : g < w1.heap.size := by have := hg1.size; omega
  have HG1 := Lib.hid hg1
  have HC1 := Lib.hid hc1
  clear hg1 hc1 HO
  cases b with
  | true =>
    have HB := Lib.hid (below_any g 200 (by omega) (by omega) w1 HC1.out)
    go_wp2_with fail
    refine HB.out.mono ?_
    rintro e w2 ⟨y, rfl, ⟨hy0, hy1⟩, hc2, hg2⟩
    have hy2 : y ≤ 199 := by simpa using hy1
    have HG2 := Lib.hid (only_trans HG1.out hg2)
    have HC2 := Lib.hid hc2
    clear hg2 hc2 hy1 HB
    go_wp2_with fail
    go_ret
    exact drewi g w w2 _ (by first | exact i32_rng _ | omega) HC2.out HG2.out
  | false =>
    have HP := Lib.hid (pickint_any g w1.heap.size [0, 67108863, 67108864, -67108864, -67108865, 2147483647, -2147483648, 1000000, -1] _ (HC1.out.grown (World.grownBy_alloc w1 _ none) (fun _ h => by cases h)) (ints_new w1 3 [0, 67108863, 67108864, -67108864, -67108865, 2147483647, -2147483648, 1000000, -1]) (by omega) (by simp) (by decide) (by decide))
    go_wp2_with fail
    refine HP.out.mono ?_
    rintro e w2 ⟨y, rfl, hy, hc2, hg2⟩
    have HG2 := Lib.hid (only_trans (only_alloc HG1.out _) hg2)
    have HC2 := Lib.hid hc2
    clear hg2 hc2 hy HP
    go_wp2_with fail
    go_ret
    exact drewi g w w2 _ (i32_rng _) HC2.out HG2.out
/-- An item is drawn. -/
def DrewIt (g : Nat) (w : World) (e : Ending) (w' : World) : Prop := ∃ it : It, e = .returned (itVal it) ∧ ItIn it ∧ it.name.size ≤ 100 ∧ CurAt w' g ∧ w.grownBy w' (some g)
/-- What is drawn lies in the first new block. -/
theorem drawn_end {w W : World} {g : Nat} (hgl : g < w.heap.size) (hc : CurAt W g) (hg : w.grownBy W (some g)) (k : Int) (nm : ByteArray) (n : Int) (x : Bool) (r : Int) :
    CurAt (putAll W w.heap.size k nm n x r) g ∧ w.grownBy (putAll W w.heap.size k nm n x r) (some g) := by
  have hb : W.grownBy (putAll W w.heap.size k nm n x r) (some w.heap.size) := by
    have h0 := World.grownBy.refl W (some w.heap.size)
    exact only_setCell (only_setCell (only_setCell (only_setCell (only_setCell h0 (.inl rfl) _) (.inl rfl) _) (.inl rfl) _) (.inl rfl) _) (.inl rfl) _
  refine ⟨hc.grown hb (fun k hk => by obtain rfl := Option.some.inj hk; exact hgl), ?_⟩
  exact only_setCell (only_setCell (only_setCell (only_setCell (only_setCell hg (.inr (Nat.le_refl _)) _) (.inr (Nat.le_refl _)) _) (.inr (Nat.le_refl _)) _) (.inr (Nat.le_refl _)) _) (.inr (Nat.le_refl _)) _
theorem res_kept {w W : World} {g : Nat} (hgl : g < w.heap.size) (hg : (w.alloc (.cells (itC 0 ⟨#[]⟩ 0 false 0) 57)).grownBy W (some g)) : Blk W w.heap.size 57 (itC 0 ⟨#[]⟩ 0 false 0) :=
  (Blk.new w _ _).grown hg (fun e => by have := Option.some.inj e; omega)
def drawnVars : List ByteArray := [⟨#[120]⟩, ⟨#[97, 116]⟩, ⟨#[113, 113, 113, 113]⟩, ⟨#[116, 101, 110]⟩]
theorem drawnVars_size : ∀ x ∈ drawnVars, x.size ≤ 9 := by decide

set_option maxHeartbeats 8000000 in
theorem drawsome_any (g : Nat) (w : World) (hc : CurAt w g) : Calls Tryd.prog 47 #[.pointer (some ⟨g, 0, none⟩)] w (DrewIt g w) := by
  have HGL := Lib.hid (cur_lt hc)
  have HC0 := Lib.hid (below_any g 8 (by omega) (by omega) _ (hc.grown (World.grownBy_alloc w (.cells (itC 0 ⟨#[]⟩ 0 false 0) 57) none) (fun _ h => by cases h)))
  clear hc
  go_enter Tryd.func47, Tryd.ntmps47
  go_wp2_with fail
  refine HC0.out.mono ?_
  rintro e w1 ⟨y, rfl, ⟨hy0, hy1⟩, hc1, hg1⟩
  have hy2 : y ≤ 7 := by simpa using hy1
  have HG1 := Lib.hid hg1
  have HC1 := Lib.hid hc1
  clear hc1 hg1 hy1 HC0
  by_cases h0 : y = 0
  · have b0 : (y == 0) = true := by simpa using h0
    clear h0 hy0 hy2
    go_wp2_with fail
    refine (drawint_any g w1 HC1.out).mono ?_
    rintro e w2 ⟨z, rfl, hz, hc2, hg2⟩
    have HO := Lib.hid (once_any g 3 (by decide) w2 hc2)
    have HG2 := Lib.hid (only_trans HG1.out hg2)
    clear hc2 hg2
    go_wp2_with fail
    refine HO.out.mono ?_
    rintro e w3 ⟨b, rfl, hc3, hg3⟩
    have HG3 := Lib.hid (only_trans HG2.out hg3)
    have HC := Lib.hid hc3
    have HG := Lib.hid (only_trans (World.grownBy_alloc w (.cells (itC 0 ⟨#[]⟩ 0 false 0) 57) (some g)) HG3.out)
    clear hc3 hg3 HO HG1 HC1 HG2
    have kr := res_kept HGL.out HG3.out
    obtain ⟨d0, d1, d2, d3, d4, f0, f1, f2, f3, f4⟩ := itC_cells kr
    have KR := Lib.hid kr
    clear kr
    go_wp2_with fail
    have hk := putAll_blk KR.out (7) ⟨#[]⟩ (z) b 0
    have hd := drawn_end HGL.out HC.out HG.out (7) ⟨#[]⟩ (z) b 0
    show bodyPost _ _ _ _ _ (putAll w3 w.heap.size (7) ⟨#[]⟩ (z) b 0)
    generalize putAll w3 w.heap.size (7) ⟨#[]⟩ (z) b 0 = W5 at hk hd ⊢
    obtain ⟨e0, e1, e2, e3, e4, -⟩ := itC_cells hk
    clear hk
    exact bodyPost_ret (v := itA (7) ⟨#[]⟩ (z) b 0) (by simp [results, Tryd.results47, e0, e1, e2, e3, e4, go_sem]) rfl ⟨⟨7, ⟨#[]⟩, z, b, 0⟩, rfl, ⟨by show (-9223372036854775808 : Int) ≤ 7; decide, by show (7 : Int) ≤ 9223372036854775807; decide, hz.1, hz.2, by show 0 < 4294967296; decide, by show 0 ≤ 4611686018427387904; decide⟩, by show 0 ≤ 100; decide, hd.1, hd.2⟩
  have b0 : (y == 0) = false := by simpa using h0
  by_cases h1 : y = 1
  · have b1 : (y == 1) = true := by simpa using h1
    clear h0 h1 hy0 hy2
    go_wp2_with fail
    refine (drawint_any g w1 HC1.out).mono ?_
    rintro e w2 ⟨z, rfl, hz, hc2, hg2⟩
    have HO := Lib.hid (once_any g 3 (by decide) w2 hc2)
    have HG2 := Lib.hid (only_trans HG1.out hg2)
    clear hc2 hg2
    go_wp2_with fail
    refine HO.out.mono ?_
    rintro e w3 ⟨b, rfl, hc3, hg3⟩
    have HG3 := Lib.hid (only_trans HG2.out hg3)
    have HC := Lib.hid hc3
    have HG := Lib.hid (only_trans (World.grownBy_alloc w (.cells (itC 0 ⟨#[]⟩ 0 false 0) 57) (some g)) HG3.out)
    clear hc3 hg3 HO HG1 HC1 HG2
    have kr := res_kept HGL.out HG3.out
    obtain ⟨d0, d1, d2, d3, d4, f0, f1, f2, f3, f4⟩ := itC_cells kr
    have KR := Lib.hid kr
    clear kr
    go_wp2_with fail
    have hk := putAll_blk KR.out (8) ⟨#[]⟩ (z) b 0
    have hd := drawn_end HGL.out HC.out HG.out (8) ⟨#[]⟩ (z) b 0
    show bodyPost _ _ _ _ _ (putAll w3 w.heap.size (8) ⟨#[]⟩ (z) b 0)
    generalize putAll w3 w.heap.size (8) ⟨#[]⟩ (z) b 0 = W5 at hk hd ⊢
    obtain ⟨e0, e1, e2, e3, e4, -⟩ := itC_cells hk
    clear hk
    exact bodyPost_ret (v := itA (8) ⟨#[]⟩ (z) b 0) (by simp [results, Tryd.results47, e0, e1, e2, e3, e4, go_sem]) rfl ⟨⟨8, ⟨#[]⟩, z, b, 0⟩, rfl, ⟨by show (-9223372036854775808 : Int) ≤ 8; decide, by show (8 : Int) ≤ 9223372036854775807; decide, hz.1, hz.2, by show 0 < 4294967296; decide, by show 0 ≤ 4611686018427387904; decide⟩, by show 0 ≤ 100; decide, hd.1, hd.2⟩
  have b1 : (y == 1) = false := by simpa using h1
  by_cases h2 : y = 2
  · have b2 : (y == 2) = true := by simpa using h2
    clear h0 h1 h2 hy0 hy2
    have hs1 : g < w1.heap.size := by have h5 := HG1.out.size; have h6 := HGL.out; simp at h5; omega
    have HP := Lib.hid (pick_any g w1.heap.size drawnVars _ (HC1.out.grown (World.grownBy_alloc w1 _ none) (fun _ h => by cases h)) (strs_new w1 9 drawnVars) (by omega) (by simp) (by decide) (by decide))
    clear hs1
    go_wp2_with fail
    refine HP.out.mono ?_
    rintro e w2 ⟨s, rfl, hs, hc2, hg2⟩
    have hs9 := drawnVars_size s hs
    have HI := Lib.hid (drawint_any g w2 hc2)
    have HG2 := Lib.hid (only_trans (only_alloc HG1.out _) hg2)
    clear hs hc2 hg2 HP
    go_wp2_with fail
    refine HI.out.mono ?_
    rintro e w3 ⟨z, rfl, hz, hc3, hg3⟩
    have HG3 := Lib.hid (only_trans HG2.out hg3)
    have HC := Lib.hid hc3
    have HG := Lib.hid (only_trans (World.grownBy_alloc w (.cells (itC 0 ⟨#[]⟩ 0 false 0) 57) (some g)) HG3.out)
    clear hc3 hg3 HI HG1 HC1 HG2
    have kr := res_kept HGL.out HG3.out
    obtain ⟨d0, d1, d2, d3, d4, f0, f1, f2, f3, f4⟩ := itC_cells kr
    have KR := Lib.hid kr
    clear kr
    go_wp2_with fail
    have hk := putAll_blk KR.out (9) s (z) false 0
    have hd := drawn_end HGL.out HC.out HG.out (9) s (z) false 0
    show bodyPost _ _ _ _ _ (putAll w3 w.heap.size (9) s (z) false 0)
    generalize putAll w3 w.heap.size (9) s (z) false 0 = W5 at hk hd ⊢
    obtain ⟨e0, e1, e2, e3, e4, -⟩ := itC_cells hk
    clear hk
    exact bodyPost_ret (v := itA (9) s (z) false 0) (by simp [results, Tryd.results47, e0, e1, e2, e3, e4, go_sem]) rfl ⟨⟨9, s, z, false, 0⟩, rfl, ⟨by show (-9223372036854775808 : Int) ≤ 9; decide, by show (9 : Int) ≤ 9223372036854775807; decide, hz.1, hz.2, by show 0 < 4294967296; decide, by show s.size ≤ 4611686018427387904; omega⟩, by show s.size ≤ 100; omega, hd.1, hd.2⟩
  have b2 : (y == 2) = false := by simpa using h2
  clear h0 h1 h2 hy0 hy2
  have HB := Lib.hid (below_any g 6 (by omega) (by omega) w1 HC1.out)
  go_wp2_with fail
  refine HB.out.mono ?_
  rintro e w2 ⟨k, rfl, ⟨hk0, hk1⟩, hc2, hg2⟩
  have hk2 : k ≤ 5 := by simpa using hk1
  have HN := Lib.hid (name_any g w2 hc2)
  have HG2 := Lib.hid (only_trans HG1.out hg2)
  clear hc2 hg2 hk1 HB
  go_wp2_with fail
  refine HN.out.mono ?_
  rintro e w3 ⟨s, rfl, hs9, hc3, hg3⟩
  have HG3 := Lib.hid (only_trans HG2.out hg3)
  have HC := Lib.hid hc3
  have HG := Lib.hid (only_trans (World.grownBy_alloc w (.cells (itC 0 ⟨#[]⟩ 0 false 0) 57) (some g)) HG3.out)
  clear hc3 hg3 HN HG1 HC1 HG2
  have kr := res_kept HGL.out HG3.out
  obtain ⟨d0, d1, d2, d3, d4, f0, f1, f2, f3, f4⟩ := itC_cells kr
  have KR := Lib.hid kr
  clear kr
  go_wp2_with fail
  have hk := putAll_blk KR.out (1 + k) s (0) false 0
  have hd := drawn_end HGL.out HC.out HG.out (1 + k) s (0) false 0
  show bodyPost _ _ _ _ _ (putAll w3 w.heap.size (1 + k) s (0) false 0)
  generalize putAll w3 w.heap.size (1 + k) s (0) false 0 = W5 at hk hd ⊢
  obtain ⟨e0, e1, e2, e3, e4, -⟩ := itC_cells hk
  clear hk
  exact bodyPost_ret (v := itA (1 + k) s (0) false 0) (by simp [results, Tryd.results47, e0, e1, e2, e3, e4, go_sem]) rfl ⟨⟨1 + k, s, 0, false, 0⟩, rfl, ⟨by show (-9223372036854775808 : Int) ≤ 1 + k; omega, by show 1 + k ≤ 9223372036854775807; omega, by show (-2147483648 : Int) ≤ 0; decide, by show (0 : Int) ≤ 2147483647; decide, by show 0 < 4294967296; decide, by show s.size ≤ 4611686018427387904; omega⟩, by show s.size ≤ 100; omega, hd.1, hd.2⟩
end Go.Proofs.YtllhcdkbgknjdaaDoor

namespace Go.Proofs.YtllhcdkbgknjdaaDoor
open Go.RowKit Go

def drawnBad : List ByteArray := [⟨#[]⟩, ⟨#[65]⟩, ⟨#[113, 113, 113, 113, 113]⟩, ⟨#[115, 113, 117, 97, 114, 101, 115, 113, 117, 97, 114, 101]⟩]
theorem drawnBad_size : ∀ x ∈ drawnBad, x.size ≤ 12 := by decide
theorem it_new {w W : World} {g : Nat} {k : Int} {nm : ByteArray} {n : Int} {x : Bool} {r : Int} (hgl : g < w.heap.size) (hg : (w.alloc (.cells (itC k nm n x r) 57)).grownBy W (some g)) : Blk W w.heap.size 57 (itC k nm n x r) :=
  (Blk.new w _ _).grown hg (fun e => by have := Option.some.inj e; omega)

end Go.Proofs.YtllhcdkbgknjdaaDoor

namespace Go.Proofs.YtllhcdkbgknjdaaDoor
open Go.RowKit Go

def DrewRec (w : World) (e : Ending) (w' : World) : Prop := ∃ (it : It) (k : Int), e = .returned (.tuple #[itVal it, .int .i64 k]) ∧ ItIn it ∧ it.name.size ≤ 100 ∧ (-1 ≤ k ∧ k ≤ 10) ∧ Below w.heap.size w w'
theorem cells5 {w : World} {g : Nat} {t : TypeId} {k : Int} {nm : ByteArray} {n : Int} {hx : Bool} {r : Int} (h : Blk w g t (itC k nm n hx r)) :
    w.cell? ⟨g, 0, none⟩ = some (.int .i64 k) ∧ w.cell? ⟨g, 1, none⟩ = some (.string nm) ∧ w.cell? ⟨g, 2, none⟩ = some (.int .i32 n) ∧ w.cell? ⟨g, 3, none⟩ = some (.bool hx) ∧ w.cell? ⟨g, 4, none⟩ = some (.int .u32 r) := by
  obtain ⟨a, b, c, d, e, -⟩ := itC_cells h
  exact ⟨a, b, c, d, e⟩

end Go.Proofs.YtllhcdkbgknjdaaDoor

namespace Go.Proofs.YtllhcdkbgknjdaaDoor
open Go.RowKit Go

abbrev stA (v : Value) : Value := .agg #[v]
/-- A new list of numbers, handed back as r tells. -/
def NewR (r : Value → Value) (w : World) (xs : List Nat) (e : Ending) (w' : World) : Prop := ∃ v, e = .returned (r v) ∧ w'.ownsRow w.heap.size 51 1 v xs.length (xs.map u32v) ∧ Below w.heap.size w w'
theorem RdN.form {w : World} {v : Value} {xs : List Nat} (h : RdN w v xs) : ∃ A cap, v = .slice A xs.length cap := by
  obtain ⟨A, cap, e, -⟩ := h
  exact ⟨A, cap, e⟩
/-- A slice's length is no more than its capacity. -/
def CapOk (v : Value) : Prop := ∀ A n c, v = .slice A n c → n ≤ c
theorem own_cap {w : World} {base : Nat} {e : TypeId} {v : Value} {n : Nat} {xs : List Value} (h : w.ownsRow base e 1 v n xs) : CapOk v := by
  intro A m c hv
  rcases h.2 with ⟨rfl, h0⟩ | ⟨g, cap, cur, rfl, hb, hg, hn, -⟩
  · injection hv with h1 h2 h3
    omega
  · injection hv with h1 h2 h3
    omega
theorem below_alloc (w : World) (o : Obj) : Below w.heap.size w (w.alloc o) := (Below.refl _ _).alloc (Nat.le_refl _) _
theorem below_alloc2 (w : World) (o1 o2 : Obj) : Below w.heap.size w ((w.alloc o1).alloc o2) := ((Below.refl _ _).alloc (Nat.le_refl _) _).alloc (by simp) _
theorem below_alloc3 (w : World) (o1 o2 o3 : Obj) : Below w.heap.size w (((w.alloc o1).alloc o2).alloc o3) := (((Below.refl _ _).alloc (Nat.le_refl _) _).alloc (by simp) _).alloc (by simp; omega) _
theorem own_below {w w' : World} {base B : Nat} {e : TypeId} {v : Value} {n : Nat} {xs : List Value} (h : w.ownsRow base e 1 v n xs) (hb : Below B w w') (hB : w.heap.size ≤ B) : w'.ownsRow base e 1 v n xs :=
  h.kept (row := none) ⟨hb.os, hb.tape, hb.output, hb.size, fun i hi _ => hb.block i (by omega)⟩ (by cases v.ownBlock <;> simp)
theorem own_form {w : World} {base : Nat} {e : TypeId} {v : Value} {n : Nat} {xs : List Value} (h : w.ownsRow base e 1 v n xs) : ∃ A cap, v = .slice A n cap := by
  rcases h.2 with ⟨rfl, h0⟩ | ⟨g, cap, cur, rfl, -⟩
  · exact ⟨none, 0, by rw [h0]⟩
  · exact ⟨_, _, rfl⟩
/-- What is owned, written out: the row's whole cells. -/
structure RowIs (w : World) (base : Nat) (e : TypeId) (g n cap : Nat) (cur xs : List Value) : Prop where
  base : base ≤ g
  row : w.heap[g]? = some (.cells cur.toArray e (0, 0))
  le : n ≤ cap
  max : cap ≤ maxLen
  len : cur.length = cap
  take : cur.take n = xs
theorem own_row {w : World} {base : Nat} {e : TypeId} {v : Value} {n : Nat} {xs : List Value} (h : w.ownsRow base e 1 v n xs) (hn : 0 < n) : ∃ g cap cur, v = .slice (some ⟨g, 0, none⟩) n cap ∧ RowIs w base e g n cap cur xs := by
  rcases h.2 with ⟨rfl, h0⟩ | ⟨g, cap, cur, rfl, hb, hg, hle, hm, hsz, ht⟩
  · omega
  · exact ⟨g, cap, cur.toList, rfl, hb, by simpa using hg, hle, hm, by simpa using hsz, by simpa using ht⟩
theorem RowIs.own {w : World} {base : Nat} {e : TypeId} {g n cap : Nat} {cur xs : List Value} (h : RowIs w base e g n cap cur xs) (hl : xs.length = n) : w.ownsRow base e 1 (.slice (some ⟨g, 0, none⟩) n cap) n xs :=
  ⟨by omega, .inr ⟨g, cap, cur.toArray, rfl, h.base, h.row, h.le, h.max, by simpa using h.len, by simpa using h.take⟩⟩
theorem RowIs.lt {w : World} {base : Nat} {e : TypeId} {g n cap : Nat} {cur xs : List Value} (h : RowIs w base e g n cap cur xs) : g < w.heap.size := (Array.getElem?_eq_some_iff.1 h.row).1
theorem own_full {w : World} {base : Nat} {e : TypeId} {g n : Nat} {xs : List Value} (h : w.ownsRow base e 1 (.slice (some ⟨g, 0, none⟩) n n) n xs) (hn : 0 < n) : w.heap[g]? = some (.cells xs.toArray e (0, 0)) := by
  obtain ⟨g2, cap, cur, hv, hr⟩ := own_row h hn
  injection hv with h1 h2 h3
  injection h1 with h1
  injection h1 with h1
  subst h1 h3
  have ht := hr.take
  rw [List.take_of_length_le (by rw [hr.len]; exact Nat.le_refl _)] at ht
  rw [← ht]
  exact hr.row
theorem own_of_full {w : World} {base : Nat} {e : TypeId} {g n : Nat} {xs : List Value} (h : w.heap[g]? = some (.cells xs.toArray e (0, 0))) (hl : xs.length = n) (hb : base ≤ g) (hm : n ≤ maxLen) : w.ownsRow base e 1 (.slice (some ⟨g, 0, none⟩) n n) n xs :=
  RowIs.own ⟨hb, h, Nat.le_refl _, hm, hl, List.take_of_length_le (by omega)⟩ hl
theorem own_put {w : World} {base : Nat} {e : TypeId} {v : Value} {n : Nat} {xs : List Value} (h : w.ownsRow base e 1 v n xs) {p : Addr} (hp : p.block < base) (u : Value) : (w.setCell p u).ownsRow base e 1 v n xs :=
  h.kept (row := some p.block) (only_setCell (World.grownBy.refl _ _) (.inl rfl) _) (.inr fun e => by have := own_lt h _ e; omega)
theorem boxes2 {w w1 : World} {cs1 cs2 : Array Value} {t1 t2 : TypeId} (hb : Below ((w.alloc (.cells cs1 t1)).alloc (.cells cs2 t2)).heap.size ((w.alloc (.cells cs1 t1)).alloc (.cells cs2 t2)) w1) :
    Blk w1 w.heap.size t1 cs1 ∧ Blk w1 (w.heap.size + 1) t2 cs2 ∧ Below w.heap.size w w1 ∧ w.heap.size + 2 ≤ w1.heap.size := by
  have e : (w.alloc (.cells cs1 t1)).heap.size = w.heap.size + 1 := by simp
  have h2 := (Blk.new (w.alloc (.cells cs1 t1)) t2 cs2).below hb (by simp)
  rw [e] at h2
  exact ⟨((Blk.new w t1 cs1).alloc (.cells cs2 t2)).below hb (by simp; omega), h2, (((Below.refl _ _).alloc (Nat.le_refl _) _).alloc (by simp) _).trans (hb.mono (by simp; omega)), by have := hb.size; simp at this; omega⟩
theorem boxes1 {w w1 : World} {cs1 : Array Value} {t1 : TypeId} (hb : Below (w.alloc (.cells cs1 t1)).heap.size (w.alloc (.cells cs1 t1)) w1) :
    Blk w1 w.heap.size t1 cs1 ∧ Below w.heap.size w w1 ∧ w.heap.size + 1 ≤ w1.heap.size :=
  ⟨(Blk.new w t1 cs1).below hb (by simp), ((Below.refl _ _).alloc (Nat.le_refl _) _).trans (hb.mono (by simp)), by have := hb.size; simp at this; omega⟩
theorem st_blk {w : World} {g : Nat} {t : TypeId} {v0 : Value} (h : Blk w g t #[v0]) (v : Value) : Blk (w.setCell ⟨g, 0, none⟩ v) g t #[v] := by
  have := h.put 0 v
  simpa using this

end Go.Proofs.YtllhcdkbgknjdaaDoor

namespace Go.Proofs.YtllhcdkbgknjdaaDoor
open Go

/-- One cell more into a sum. -/
def sumStep (h c : Nat) : Nat := ((h ^^^ c) * 16777619) % 4294967296
def sumFrom (h : Nat) (l : List Nat) : Nat := l.foldl sumStep h
def sumL (l : List Nat) : Nat := sumFrom 2166136261 l
theorem sumStep_lt (h c : Nat) : sumStep h c < 4294967296 := Nat.mod_lt _ (by decide)
theorem sumFrom_lt {h : Nat} (hh : h < 4294967296) : ∀ l : List Nat, sumFrom h l < 4294967296
  | [] => hh
  | c :: r => sumFrom_lt (sumStep_lt h c) r
theorem sumL_lt (l : List Nat) : sumL l < 4294967296 := by
  unfold sumL
  exact sumFrom_lt (by omega) l
theorem sumFrom_cons (h c : Nat) (r : List Nat) : sumFrom h (c :: r) = sumFrom (sumStep h c) r := by unfold sumFrom; rw [List.foldl_cons]
theorem sumFrom_append (h : Nat) (a b : List Nat) : sumFrom h (a ++ b) = sumFrom (sumFrom h a) b := by unfold sumFrom; rw [List.foldl_append]
theorem sumFrom_snoc (h : Nat) (a : List Nat) (c : Nat) : sumFrom h (a ++ [c]) = sumStep (sumFrom h a) c := by rw [sumFrom_append]; unfold sumFrom; rw [List.foldl_cons, List.foldl_nil]
/-- A factor that has an inverse. -/
theorem times_back {M p q m z : Nat} (h : p * q = m * M + 1) (hz : z < M) : (z * p % M) * q % M = z := by
  rw [Nat.mod_mul_mod, Nat.mul_assoc, h, Nat.mul_add, Nat.mul_one, ← Nat.mul_assoc, Nat.add_comm, Nat.add_mul_mod_self_right]
  exact Nat.mod_eq_of_lt hz
theorem times_same {M p q m x y : Nat} (h : p * q = m * M + 1) (hx : x < M) (hy : y < M) (e : x * p % M = y * p % M) : x = y := by
  rw [← times_back h hx, ← times_back h hy, e]
theorem times_inj {x y : Nat} (hx : x < 4294967296) (hy : y < 4294967296) (h : x * 16777619 % 4294967296 = y * 16777619 % 4294967296) : x = y :=
  times_same (q := 899433627) (m := 3513497) (by decide) hx hy h
theorem xor32 {a b : Nat} (ha : a < 4294967296) (hb : b < 4294967296) : a ^^^ b < 4294967296 := Nat.xor_lt_two_pow (n := 32) ha hb
theorem xor_back (a b : Nat) : a ^^^ b ^^^ b = a := by rw [Nat.xor_assoc, Nat.xor_self, Nat.xor_zero]
theorem sumStep_inj_h {h h' c : Nat} (hh : h < 4294967296) (hh' : h' < 4294967296) (hc : c < 4294967296) (e : sumStep h c = sumStep h' c) : h = h' := by
  have := times_inj (xor32 hh hc) (xor32 hh' hc) e
  rw [← xor_back h c, ← xor_back h' c, this]
theorem sumStep_inj_c {h c c' : Nat} (hh : h < 4294967296) (hc : c < 4294967296) (hc' : c' < 4294967296) (e : sumStep h c = sumStep h c') : c = c' := by
  have h2 := times_inj (xor32 hh hc) (xor32 hh hc') e
  rw [Nat.xor_comm h c, Nat.xor_comm h c'] at h2
  rw [← xor_back c h, ← xor_back c' h, h2]
theorem sumFrom_inj : ∀ (l : List Nat) {h h' : Nat}, h < 4294967296 → h' < 4294967296 → (∀ c ∈ l, c < 4294967296) → sumFrom h l = sumFrom h' l → h = h'
  | [], _, _, _, _, _, e => e
  | c :: r, h, h', hh, hh', hs, e => by
    have := sumFrom_inj r (sumStep_lt h c) (sumStep_lt h' c) (fun x hx => hs x (by simp [hx])) e
    exact sumStep_inj_h hh hh' (hs c (by simp)) this
/-- Cells of which just one is another one have another sum. -/
theorem sum_set {l : List Nat} {i x : Nat} (hi : i < l.length) (hs : ∀ c ∈ l, c < 4294967296) (hx : x < 4294967296) (hne : l[i] ≠ x) : sumL (l.set i x) ≠ sumL l := by
  intro e
  have h1 : l = l.take i ++ l[i] :: l.drop (i + 1) := by rw [← List.drop_eq_getElem_cons hi, List.take_append_drop]
  have h2 : l.set i x = l.take i ++ x :: l.drop (i + 1) := by rw [List.set_eq_take_append_cons_drop, if_pos hi]
  have hm := hs _ (List.getElem_mem hi)
  have hr : ∀ c ∈ l.drop (i + 1), c < 4294967296 := fun c hc => hs c (List.mem_of_mem_drop hc)
  have ht := sumFrom_lt (h := 2166136261) (by omega) (l.take i)
  unfold sumL at e
  rw [h2] at e
  have e2 : sumFrom 2166136261 l = sumFrom 2166136261 (l.take i ++ l[i] :: l.drop (i + 1)) := by rw [← h1]
  rw [e2, sumFrom_append, sumFrom_append, sumFrom_cons, sumFrom_cons] at e
  have e3 := sumFrom_inj _ (sumStep_lt _ _) (sumStep_lt _ _) hr e
  exact hne (sumStep_inj_c ht hx hm e3).symm

/-- A number of 32 bits as four bytes, the lowest first. -/
def fourB (c : Nat) : List Nat := [c % 256, c / 256 % 256, c / 65536 % 256, c / 16777216 % 256]
/-- Four bytes as a number. -/
def wordB (a b c d : Nat) : Nat := a + b * 256 + c * 65536 + d * 16777216
theorem wordB_four {c : Nat} (h : c < 4294967296) : wordB (c % 256) (c / 256 % 256) (c / 65536 % 256) (c / 16777216 % 256) = c := by unfold wordB; omega
theorem wordB_lt {a b c d : Nat} (ha : a < 256) (hb : b < 256) (hc : c < 256) (hd : d < 256) : wordB a b c d < 4294967296 := by unfold wordB; omega
/-- Bytes in fours. -/
def wordsB : List Nat → List Nat
  | a :: b :: c :: d :: r => wordB a b c d :: wordsB r
  | _ => []
theorem wordsB_four : ∀ l : List Nat, (∀ c ∈ l, c < 4294967296) → wordsB (l.flatMap fourB) = l
  | [], _ => rfl
  | c :: r, h => by
    show wordB _ _ _ _ :: wordsB (r.flatMap fourB) = _
    rw [wordB_four (h c (by simp)), wordsB_four r fun x hx => h x (by simp [hx])]
theorem four_len (l : List Nat) : (l.flatMap fourB).length = 4 * l.length := by
  induction l with
  | nil => rfl
  | cons c r ih => rw [List.flatMap_cons, List.length_append, ih, List.length_cons]; show 4 + _ = _; omega
/-- The bytes of right cells. -/
def imageL (l : List Nat) : List Nat := l.length / 64 :: (l ++ [sumL l]).flatMap fourB
theorem imageL_len (l : List Nat) : (imageL l).length = 5 + 4 * l.length := by
  unfold imageL
  rw [List.length_cons, four_len, List.length_append]
  show 4 * (l.length + 1) + 1 = _
  omega
/-- Whether bytes are those of a store. -/
def readOk (b : List Nat) : Bool := decide (5 ≤ b.length ∧ b.headD 0 ≤ 12 ∧ b.length = 5 + 256 * b.headD 0 ∧ sumL ((wordsB b.tail).take (64 * b.headD 0)) = (wordsB b.tail).getD (64 * b.headD 0) 0)
/-- The cells of bytes. -/
def readL (b : List Nat) : List Nat := if readOk b = true then (wordsB b.tail).take (64 * b.headD 0) else []
theorem wordsB_image (l : List Nat) (hs : ∀ c ∈ l, c < 4294967296) : wordsB (imageL l).tail = l ++ [sumL l] := by
  show wordsB ((l ++ [sumL l]).flatMap fourB) = _
  exact wordsB_four _ fun c hc => by
    rcases List.mem_append.1 hc with h | h
    · exact hs c h
    · rw [List.mem_singleton.1 h]; exact sumL_lt l
/-- A store comes back from its bytes. -/
theorem read_image {l : List Nat} (hs : ∀ c ∈ l, c < 4294967296) (hm : l.length % 64 = 0) (hl : l.length ≤ 768) : readOk (imageL l) = true ∧ readL (imageL l) = l := by
  have h1 : (imageL l).headD 0 = l.length / 64 := rfl
  have h2 : 64 * (l.length / 64) = l.length := by omega
  have h3 : readOk (imageL l) = true := by
    unfold readOk
    rw [h1, wordsB_image l hs, h2]
    refine decide_eq_true ⟨by rw [imageL_len]; omega, by omega, by rw [imageL_len]; omega, ?_⟩
    rw [List.take_left]
    simp
  refine ⟨h3, ?_⟩
  unfold readL
  rw [if_pos h3, h1, wordsB_image l hs, h2, List.take_left]
theorem wordB_inj {a b c d a' b' c' d' : Nat} (ha : a < 256) (hb : b < 256) (hc : c < 256) (ha' : a' < 256) (hb' : b' < 256) (hc' : c' < 256) (h : wordB a b c d = wordB a' b' c' d') : a = a' ∧ b = b' ∧ c = c' ∧ d = d' := by
  unfold wordB at h
  omega
/-- One byte turned turns one number. -/
theorem wordsB_set : ∀ (n : Nat) (b : List Nat) (i x : Nat), b.length = 4 * n → (∀ y ∈ b, y < 256) → x < 256 → (hi : i < b.length) → b[i] ≠ x →
    ∃ (hj : i / 4 < (wordsB b).length) (z : Nat), z < 4294967296 ∧ wordsB (b.set i x) = (wordsB b).set (i / 4) z ∧ (wordsB b)[i / 4] ≠ z
  | 0, [], i, x, _, _, _, hi, _ => absurd hi (Nat.not_lt_zero _)
  | 0, _ :: _, i, x, h, _, _, _, _ => by simp at h
  | n + 1, [], i, x, h, _, _, _, _ => by simp at h
  | n + 1, [a], i, x, h, _, _, _, _ => by simp at h; omega
  | n + 1, [a, b], i, x, h, _, _, _, _ => by simp at h; omega
  | n + 1, [a, b, c], i, x, h, _, _, _, _ => by simp at h; omega
  | n + 1, a :: b :: c :: d :: r, i, x, h, hs, hx, hi, hne => by
    have ha := hs a (by simp)
    have hb := hs b (by simp)
    have hc := hs c (by simp)
    have hd := hs d (by simp)
    match i, hi, hne with
    | 0, _, hne => exact ⟨by simp [wordsB], wordB x b c d, wordB_lt hx hb hc hd, rfl, fun e => hne (wordB_inj ha hb hc hx hb hc e).1⟩
    | 1, _, hne => exact ⟨by simp [wordsB], wordB a x c d, wordB_lt ha hx hc hd, rfl, fun e => hne (wordB_inj ha hb hc ha hx hc e).2.1⟩
    | 2, _, hne => exact ⟨by simp [wordsB], wordB a b x d, wordB_lt ha hb hx hd, rfl, fun e => hne (wordB_inj ha hb hc ha hb hx e).2.2.1⟩
    | 3, _, hne => exact ⟨by simp [wordsB], wordB a b c x, wordB_lt ha hb hc hx, rfl, fun e => hne (wordB_inj ha hb hc ha hb hc e).2.2.2⟩
    | i + 4, hi, hne =>
      obtain ⟨hj, z, hz, e1, e2⟩ := wordsB_set n r i x (by simp at h; omega) (fun y hy => hs y (by simp [hy])) hx (by simp at hi; omega) (by simpa using hne)
      have hq : (i + 4) / 4 = i / 4 + 1 := by omega
      refine ⟨by rw [hq]; show _ < (wordB a b c d :: wordsB r).length; rw [List.length_cons]; omega, z, hz, ?_, ?_⟩
      · rw [hq]
        show wordB a b c d :: wordsB (r.set i x) = wordB a b c d :: (wordsB r).set (i / 4) z
        rw [e1]
      · simp only [hq]
        exact e2
/-- Bytes of a store that are turned in one place are those of none. -/
theorem read_turned {l : List Nat} (hs : ∀ c ∈ l, c < 4294967296) (hm : l.length % 64 = 0) {i x : Nat} (hi : i < (imageL l).length) (hx : x < 256) (hne : (imageL l)[i] ≠ x) : readOk ((imageL l).set i x) = false := by
  refine decide_eq_false fun ⟨h5, h12, hlen, hsum⟩ => ?_
  rw [List.length_set, imageL_len] at hlen
  match i, hi, hne with
  | 0, _, hne =>
    have e : ((imageL l).set 0 x).headD 0 = x := rfl
    rw [e] at hlen
    exact hne (by show l.length / 64 = x; omega)
  | i + 1, hi, hne =>
    have e : ((imageL l).set (i + 1) x).headD 0 = l.length / 64 := rfl
    have et : ((imageL l).set (i + 1) x).tail = (imageL l).tail.set i x := rfl
    have h64 : 64 * (l.length / 64) = l.length := by omega
    rw [e, et, h64] at hsum
    have hlt : (imageL l).tail.length = 4 * (l.length + 1) := by rw [List.length_tail, imageL_len]; omega
    have hbytes : ∀ y ∈ (imageL l).tail, y < 256 := fun y hy => by
      have hy : y ∈ (l ++ [sumL l]).flatMap fourB := hy
      obtain ⟨c, _, h2⟩ := List.mem_flatMap.1 hy
      simp [fourB] at h2
      omega
    have hi2 : i < (imageL l).tail.length := by rw [hlt]; rw [imageL_len] at hi; omega
    obtain ⟨hj, z, hz, e1, e2⟩ := wordsB_set _ _ i x hlt hbytes hx hi2 hne
    rw [e1, wordsB_image l hs] at hsum
    simp only [wordsB_image l hs] at e2 hj
    rw [List.length_append, List.length_singleton] at hj
    by_cases hjl : i / 4 < l.length
    · rw [List.set_append_left _ _ hjl, List.take_left' (by rw [List.length_set]), List.getD_eq_getElem?_getD, List.getElem?_append_right (by rw [List.length_set]; omega)] at hsum
      rw [List.length_set, Nat.sub_self] at hsum
      rw [List.getElem_append_left hjl] at e2
      exact sum_set hjl hs hz e2 hsum
    · have hjl : i / 4 = l.length := by omega
      rw [hjl, List.set_append_right _ _ (Nat.le_refl _), Nat.sub_self, List.take_left] at hsum
      simp at hsum
      simp [hjl] at e2
      exact e2 hsum
end Go.Proofs.YtllhcdkbgknjdaaDoor
