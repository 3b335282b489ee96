/-
  The model's CellsOf at a variable: how many cells there are.
-/
import Derived.Test.YtllhcdkbgknjdaaSpecWord
import Derived.Test.YtllhcdkbgknjdaaSpecNum
import Derived.Handy
import Derived.Test.YtllhcdkbgknjdaaCellsOf1
namespace Go.Proofs.Ytllhcdkbgknjdaa
open Go.RowKit Go

set_option maxHeartbeats 1000000 in
theorem sc_var_NTV (nm : ByteArray) (n : Int) (hn : (n == 0) = false) (r : Nat) (m : Nat) (h1 : m = 1) (HWD : Hid (∀ W, Calls Try.prog 36 #[.int .u32 12, .string nm] W (NewLen W m))) (w : World) : Calls Try.prog 29 #[itA 9 nm n true (r : Int)] w (NewLen w 0) := by
  subst h1
  go_enter Try.func29, Try.ntmps29
  go_wp2_with fail
  refine (HWD.out _).mono ?_
  rintro e w3 ⟨v, zs, rfl, hl, hz, hown, hb3⟩
  have HE := Lib.hid (show w3.ownsRow w.heap.size 24 1 v zs.length (zs.map u32v) ∧ (∀ z ∈ zs, z < 4294967296) ∧ Below w.heap.size w w3 from ⟨own_base hown (by simp), hz, (((Below.refl w.heap.size w).alloc (Nat.le_refl _) _).trans (hb3.mono (by simp)))⟩)
  obtain ⟨A, cap, rfl⟩ := own_slice hown
  have hb4 : Below (w.heap.size + 1) (w.alloc (.cells #[.int .i64 9, .string nm, .int .i32 n, .bool true, .int .u32 (r : Int)] 26)) w3 := hb3.mono (by simp)
  obtain ⟨c0, c1, c2, c3, c4⟩ := it_box hb4
  have HL := Lib.hid hl
  rw [hl]
  clear hl hz hb3 hb4 hown
  go_wp2_with fail
  go_ret
  exact ⟨_, [], rfl, rfl, fun _ hz => absurd hz List.not_mem_nil, own_base (own_empty _ _) HE.out.2.2.size, HE.out.2.2.alloc HE.out.2.2.size _⟩

set_option maxHeartbeats 1000000 in
theorem sc_var_NFZ (nm : ByteArray) (n : Int) (hn : (n == 0) = false) (m : Nat) (h1 : m = 1) (HWD : Hid (∀ W, Calls Try.prog 36 #[.int .u32 12, .string nm] W (NewLen W m))) (w : World) : Calls Try.prog 29 #[itA 9 nm n false 0] w (NewLen w 2) := by
  obtain ⟨i0, hi, hz0, hz1, hz2⟩ := info_parts infoU32
  subst h1
  go_enter Try.func29, Try.ntmps29
  go_wp2_with fail
  refine (HWD.out _).mono ?_
  rintro e w3 ⟨v, zs, rfl, hl, hz, hown, hb3⟩
  have HE := Lib.hid (show w3.ownsRow w.heap.size 24 1 v zs.length (zs.map u32v) ∧ (∀ z ∈ zs, z < 4294967296) ∧ Below w.heap.size w w3 from ⟨own_base hown (by simp), hz, (((Below.refl w.heap.size w).alloc (Nat.le_refl _) _).trans (hb3.mono (by simp)))⟩)
  obtain ⟨A, cap, rfl⟩ := own_slice hown
  have hb4 : Below (w.heap.size + 1) (w.alloc (.cells #[.int .i64 9, .string nm, .int .i32 n, .bool false, .int .u32 0] 26)) w3 := hb3.mono (by simp)
  obtain ⟨c0, c1, c2, c3, c4⟩ := it_box hb4
  have hlt : w.heap.size < w3.heap.size := by have := hb3.size; simp at this; omega
  have hown2 := own_base hown (show w.heap.size ≤ _ by simp)
  rw [hl] at hown2
  rw [hl]
  obtain ⟨y, hy, hyl⟩ := u32_some (n)
  have HYL := Lib.hid hyl
  have HL := Lib.hid hl
  clear hl hz hb3 hb4 hyl hown
  go_wp2_with (at_builtin; refine wpList_append_own _ rfl _ _ 31 rfl w.heap.size 24 i0 (.int .u32 0) 1 4 Try.underlying31 hi hz0 hz1 hz2 rfl (by decide) _ _ _ rfl (hown2.alloc _) ⟨w3.heap.size, 0, none⟩ 1 1 [.int .u32 (y : Int)] rfl rfl (cell_one_new _ _ _) (by simp [Value.oneCell']) (by unfold maxLen; omega) (by omega) (by simp; omega) ?_; intro v' w4 hown' hgrow _)
  go_ret
  exact ⟨v', zs ++ [y], rfl, by rw [List.length_append, HL.out]; rfl, (snoc_len (pre := zs) (p := 0) ⟨rfl, HE.out.2.1⟩ HYL.out).2, by rw [List.length_append, HL.out, List.map_append]; exact hown', (HE.out.2.2.alloc HE.out.2.2.size _).grown hgrow (by simp; omega) (own_lt hown2)⟩

set_option maxHeartbeats 1000000 in
theorem sc_var_NFN (nm : ByteArray) (n : Int) (hn : (n == 0) = false) (r : Nat) (hr : ((r : Int) == 0) = false) (m : Nat) (h1 : m = 1) (HWD : Hid (∀ W, Calls Try.prog 36 #[.int .u32 12, .string nm] W (NewLen W m))) (w : World) : Calls Try.prog 29 #[itA 9 nm n false (r : Int)] w (NewLen w 0) := by
  subst h1
  go_enter Try.func29, Try.ntmps29
  go_wp2_with fail
  refine (HWD.out _).mono ?_
  rintro e w3 ⟨v, zs, rfl, hl, hz, hown, hb3⟩
  have HE := Lib.hid (show w3.ownsRow w.heap.size 24 1 v zs.length (zs.map u32v) ∧ (∀ z ∈ zs, z < 4294967296) ∧ Below w.heap.size w w3 from ⟨own_base hown (by simp), hz, (((Below.refl w.heap.size w).alloc (Nat.le_refl _) _).trans (hb3.mono (by simp)))⟩)
  obtain ⟨A, cap, rfl⟩ := own_slice hown
  have hb4 : Below (w.heap.size + 1) (w.alloc (.cells #[.int .i64 9, .string nm, .int .i32 n, .bool false, .int .u32 (r : Int)] 26)) w3 := hb3.mono (by simp)
  obtain ⟨c0, c1, c2, c3, c4⟩ := it_box hb4
  have HL := Lib.hid hl
  rw [hl]
  clear hl hz hb3 hb4 hown
  go_wp2_with fail
  go_ret
  exact ⟨_, [], rfl, rfl, fun _ hz => absurd hz List.not_mem_nil, own_base (own_empty _ _) HE.out.2.2.size, HE.out.2.2.alloc HE.out.2.2.size _⟩

set_option maxHeartbeats 1000000 in
theorem sc_var_ZTV (nm : ByteArray) (r : Nat) (m : Nat) (h1 : m = 1) (HWD : Hid (∀ W, Calls Try.prog 36 #[.int .u32 12, .string nm] W (NewLen W m))) (w : World) : Calls Try.prog 29 #[itA 9 nm 0 true (r : Int)] w (NewLen w 0) := by
  subst h1
  go_enter Try.func29, Try.ntmps29
  go_wp2_with fail
  refine (HWD.out _).mono ?_
  rintro e w3 ⟨v, zs, rfl, hl, hz, hown, hb3⟩
  have HE := Lib.hid (show w3.ownsRow w.heap.size 24 1 v zs.length (zs.map u32v) ∧ (∀ z ∈ zs, z < 4294967296) ∧ Below w.heap.size w w3 from ⟨own_base hown (by simp), hz, (((Below.refl w.heap.size w).alloc (Nat.le_refl _) _).trans (hb3.mono (by simp)))⟩)
  obtain ⟨A, cap, rfl⟩ := own_slice hown
  have hb4 : Below (w.heap.size + 1) (w.alloc (.cells #[.int .i64 9, .string nm, .int .i32 0, .bool true, .int .u32 (r : Int)] 26)) w3 := hb3.mono (by simp)
  obtain ⟨c0, c1, c2, c3, c4⟩ := it_box hb4
  have HL := Lib.hid hl
  rw [hl]
  clear hl hz hb3 hb4 hown
  go_wp2_with fail
  go_ret
  exact ⟨_, [], rfl, rfl, fun _ hz => absurd hz List.not_mem_nil, own_base (own_empty _ _) HE.out.2.2.size, HE.out.2.2.alloc HE.out.2.2.size _⟩

set_option maxHeartbeats 1000000 in
theorem sc_var_ZFN (nm : ByteArray) (r : Nat) (hr : ((r : Int) == 0) = false) (m : Nat) (h1 : m = 1) (HWD : Hid (∀ W, Calls Try.prog 36 #[.int .u32 12, .string nm] W (NewLen W m))) (w : World) : Calls Try.prog 29 #[itA 9 nm 0 false (r : Int)] w (NewLen w 0) := by
  subst h1
  go_enter Try.func29, Try.ntmps29
  go_wp2_with fail
  refine (HWD.out _).mono ?_
  rintro e w3 ⟨v, zs, rfl, hl, hz, hown, hb3⟩
  have HE := Lib.hid (show w3.ownsRow w.heap.size 24 1 v zs.length (zs.map u32v) ∧ (∀ z ∈ zs, z < 4294967296) ∧ Below w.heap.size w w3 from ⟨own_base hown (by simp), hz, (((Below.refl w.heap.size w).alloc (Nat.le_refl _) _).trans (hb3.mono (by simp)))⟩)
  obtain ⟨A, cap, rfl⟩ := own_slice hown
  have hb4 : Below (w.heap.size + 1) (w.alloc (.cells #[.int .i64 9, .string nm, .int .i32 0, .bool false, .int .u32 (r : Int)] 26)) w3 := hb3.mono (by simp)
  obtain ⟨c0, c1, c2, c3, c4⟩ := it_box hb4
  have HL := Lib.hid hl
  rw [hl]
  clear hl hz hb3 hb4 hown
  go_wp2_with fail
  go_ret
  exact ⟨_, [], rfl, rfl, fun _ hz => absurd hz List.not_mem_nil, own_base (own_empty _ _) HE.out.2.2.size, HE.out.2.2.alloc HE.out.2.2.size _⟩

set_option maxHeartbeats 1000000 in
theorem sc_var_ZFZ (nm : ByteArray) (m : Nat) (h1 : m = 1) (HWD : Hid (∀ W, Calls Try.prog 36 #[.int .u32 12, .string nm] W (NewLen W m))) (w : World) : Calls Try.prog 29 #[itA 9 nm 0 false 0] w (NewLen w 2) := by
  obtain ⟨i0, hi, hz0, hz1, hz2⟩ := info_parts infoU32
  subst h1
  go_enter Try.func29, Try.ntmps29
  go_wp2_with fail
  refine (HWD.out _).mono ?_
  rintro e w3 ⟨v, zs, rfl, hl, hz, hown, hb3⟩
  have HE := Lib.hid (show w3.ownsRow w.heap.size 24 1 v zs.length (zs.map u32v) ∧ (∀ z ∈ zs, z < 4294967296) ∧ Below w.heap.size w w3 from ⟨own_base hown (by simp), hz, (((Below.refl w.heap.size w).alloc (Nat.le_refl _) _).trans (hb3.mono (by simp)))⟩)
  obtain ⟨A, cap, rfl⟩ := own_slice hown
  have hb4 : Below (w.heap.size + 1) (w.alloc (.cells #[.int .i64 9, .string nm, .int .i32 0, .bool false, .int .u32 0] 26)) w3 := hb3.mono (by simp)
  obtain ⟨c0, c1, c2, c3, c4⟩ := it_box hb4
  have hlt : w.heap.size < w3.heap.size := by have := hb3.size; simp at this; omega
  have hown2 := own_base hown (show w.heap.size ≤ _ by simp)
  rw [hl] at hown2
  rw [hl]
  obtain ⟨y, hy, hyl⟩ := u32_some (0)
  have HYL := Lib.hid hyl
  have HL := Lib.hid hl
  clear hl hz hb3 hb4 hyl hown
  go_wp2_with (at_builtin; refine wpList_append_own _ rfl _ _ 31 rfl w.heap.size 24 i0 (.int .u32 0) 1 4 Try.underlying31 hi hz0 hz1 hz2 rfl (by decide) _ _ _ rfl (hown2.alloc _) ⟨w3.heap.size, 0, none⟩ 1 1 [.int .u32 (y : Int)] rfl rfl (cell_one_new _ _ _) (by simp [Value.oneCell']) (by unfold maxLen; omega) (by omega) (by simp; omega) ?_; intro v' w4 hown' hgrow _)
  go_ret
  exact ⟨v', zs ++ [y], rfl, by rw [List.length_append, HL.out]; rfl, (snoc_len (pre := zs) (p := 0) ⟨rfl, HE.out.2.1⟩ HYL.out).2, by rw [List.length_append, HL.out, List.map_append]; exact hown', (HE.out.2.2.alloc HE.out.2.2.size _).grown hgrow (by simp; omega) (own_lt hown2)⟩

set_option maxHeartbeats 1000000 in
theorem sc_vno_NVV (nm : ByteArray) (n : Int) (hn : (n == 0) = false) (x : Bool) (r : Nat) (m : Nat) (h1 : m ≠ 1) (HWD : Hid (∀ W, Calls Try.prog 36 #[.int .u32 12, .string nm] W (NewLen W m))) (w : World) : Calls Try.prog 29 #[itA 9 nm n x (r : Int)] w (NewLen w 0) := by
  go_enter Try.func29, Try.ntmps29
  go_wp2_with fail
  refine (HWD.out _).mono ?_
  rintro e w3 ⟨v, zs, rfl, hl, hz, hown, hb3⟩
  have HE := Lib.hid (show w3.ownsRow w.heap.size 24 1 v zs.length (zs.map u32v) ∧ (∀ z ∈ zs, z < 4294967296) ∧ Below w.heap.size w w3 from ⟨own_base hown (by simp), hz, (((Below.refl w.heap.size w).alloc (Nat.le_refl _) _).trans (hb3.mono (by simp)))⟩)
  obtain ⟨A, cap, rfl⟩ := own_slice hown
  have hne : ((zs.length : Int) == 1) = false := by simp; omega
  clear hl hz hb3 hown h1
  go_wp2_with fail
  go_ret
  exact ⟨_, [], rfl, rfl, fun _ hz => absurd hz List.not_mem_nil, own_base (own_empty _ _) HE.out.2.2.size, HE.out.2.2.alloc HE.out.2.2.size _⟩

set_option maxHeartbeats 1000000 in
theorem sc_vno_ZTV (nm : ByteArray) (r : Nat) (m : Nat) (h1 : m ≠ 1) (HWD : Hid (∀ W, Calls Try.prog 36 #[.int .u32 12, .string nm] W (NewLen W m))) (w : World) : Calls Try.prog 29 #[itA 9 nm 0 true (r : Int)] w (NewLen w 0) := by
  go_enter Try.func29, Try.ntmps29
  go_wp2_with fail
  refine (HWD.out _).mono ?_
  rintro e w3 ⟨v, zs, rfl, hl, hz, hown, hb3⟩
  have HE := Lib.hid (show w3.ownsRow w.heap.size 24 1 v zs.length (zs.map u32v) ∧ (∀ z ∈ zs, z < 4294967296) ∧ Below w.heap.size w w3 from ⟨own_base hown (by simp), hz, (((Below.refl w.heap.size w).alloc (Nat.le_refl _) _).trans (hb3.mono (by simp)))⟩)
  obtain ⟨A, cap, rfl⟩ := own_slice hown
  have hne : ((zs.length : Int) == 1) = false := by simp; omega
  clear hl hz hb3 hown h1
  go_wp2_with fail
  go_ret
  exact ⟨_, [], rfl, rfl, fun _ hz => absurd hz List.not_mem_nil, own_base (own_empty _ _) HE.out.2.2.size, HE.out.2.2.alloc HE.out.2.2.size _⟩

set_option maxHeartbeats 1000000 in
theorem sc_vno_ZFN (nm : ByteArray) (r : Nat) (hr : ((r : Int) == 0) = false) (m : Nat) (h1 : m ≠ 1) (HWD : Hid (∀ W, Calls Try.prog 36 #[.int .u32 12, .string nm] W (NewLen W m))) (w : World) : Calls Try.prog 29 #[itA 9 nm 0 false (r : Int)] w (NewLen w 0) := by
  go_enter Try.func29, Try.ntmps29
  go_wp2_with fail
  refine (HWD.out _).mono ?_
  rintro e w3 ⟨v, zs, rfl, hl, hz, hown, hb3⟩
  have HE := Lib.hid (show w3.ownsRow w.heap.size 24 1 v zs.length (zs.map u32v) ∧ (∀ z ∈ zs, z < 4294967296) ∧ Below w.heap.size w w3 from ⟨own_base hown (by simp), hz, (((Below.refl w.heap.size w).alloc (Nat.le_refl _) _).trans (hb3.mono (by simp)))⟩)
  obtain ⟨A, cap, rfl⟩ := own_slice hown
  have hne : ((zs.length : Int) == 1) = false := by simp; omega
  clear hl hz hb3 hown h1
  go_wp2_with fail
  go_ret
  exact ⟨_, [], rfl, rfl, fun _ hz => absurd hz List.not_mem_nil, own_base (own_empty _ _) HE.out.2.2.size, HE.out.2.2.alloc HE.out.2.2.size _⟩

set_option maxHeartbeats 1000000 in
theorem sc_vno_ZFZ (nm : ByteArray) (m : Nat) (h1 : m ≠ 1) (HWD : Hid (∀ W, Calls Try.prog 36 #[.int .u32 12, .string nm] W (NewLen W m))) (w : World) : Calls Try.prog 29 #[itA 9 nm 0 false 0] w (NewLen w 0) := by
  go_enter Try.func29, Try.ntmps29
  go_wp2_with fail
  refine (HWD.out _).mono ?_
  rintro e w3 ⟨v, zs, rfl, hl, hz, hown, hb3⟩
  have HE := Lib.hid (show w3.ownsRow w.heap.size 24 1 v zs.length (zs.map u32v) ∧ (∀ z ∈ zs, z < 4294967296) ∧ Below w.heap.size w w3 from ⟨own_base hown (by simp), hz, (((Below.refl w.heap.size w).alloc (Nat.le_refl _) _).trans (hb3.mono (by simp)))⟩)
  obtain ⟨A, cap, rfl⟩ := own_slice hown
  have hne : ((zs.length : Int) == 1) = false := by simp; omega
  clear hl hz hb3 hown h1
  go_wp2_with fail
  go_ret
  exact ⟨_, [], rfl, rfl, fun _ hz => absurd hz List.not_mem_nil, own_base (own_empty _ _) HE.out.2.2.size, HE.out.2.2.alloc HE.out.2.2.size _⟩

end Go.Proofs.Ytllhcdkbgknjdaa
