/-
  The model's CellsOf at a word, and at no kind: how many cells there are.
-/
import Derived.Test.YtllhcdkbgknjdaaSpecWord
import Derived.Test.YtllhcdkbgknjdaaSpecNum
import Derived.Handy
namespace Go.Proofs.Ytllhcdkbgknjdaa
open Go.RowKit Go

set_option maxHeartbeats 1000000 in
theorem sc_word_NVV (k : Int) (h : wordK k = true) (nm : ByteArray) (n : Int) (hn : (n == 0) = false) (x : Bool) (r : Nat) (w : World) : Calls Try.prog 29 #[itA k nm n x (r : Int)] w (NewLen w 0) := by
  have hk := of_decide_eq_true h
  have b0 : (k == 0) = false := by simp; omega
  have b7 : (k == 7) = false := by simp; omega
  have b8 : (k == 8) = false := by simp; omega
  have b9 : (k == 9) = false := by simp; omega
  have HT := Lib.hid (fun W => spec_tag k W)
  have ht : 0 < tagW k := by
    unfold tagW
    (repeat' split) <;> omega
  obtain ⟨t, htt⟩ : ∃ t, tagW k = t := ⟨_, rfl⟩
  rw [htt] at HT ht
  clear h hk htt
  go_enter Try.func29, Try.ntmps29
  go_wp2_with fail
  refine (HT.out _).mono ?_
  rintro e w' ⟨rfl, rfl⟩
  go_wp2_with fail
  go_ret
  exact new_emp (by simp) (by go_grown)

set_option maxHeartbeats 1000000 in
theorem sc_word_ZTV (k : Int) (h : wordK k = true) (nm : ByteArray) (r : Nat) (w : World) : Calls Try.prog 29 #[itA k nm 0 true (r : Int)] w (NewLen w 0) := by
  have hk := of_decide_eq_true h
  have b0 : (k == 0) = false := by simp; omega
  have b7 : (k == 7) = false := by simp; omega
  have b8 : (k == 8) = false := by simp; omega
  have b9 : (k == 9) = false := by simp; omega
  have HT := Lib.hid (fun W => spec_tag k W)
  have ht : 0 < tagW k := by
    unfold tagW
    (repeat' split) <;> omega
  obtain ⟨t, htt⟩ : ∃ t, tagW k = t := ⟨_, rfl⟩
  rw [htt] at HT ht
  clear h hk htt
  go_enter Try.func29, Try.ntmps29
  go_wp2_with fail
  refine (HT.out _).mono ?_
  rintro e w' ⟨rfl, rfl⟩
  go_wp2_with fail
  go_ret
  exact new_emp (by simp) (by go_grown)

set_option maxHeartbeats 1000000 in
theorem sc_word_ZFN (k : Int) (h : wordK k = true) (nm : ByteArray) (r : Nat) (hr : ((r : Int) == 0) = false) (w : World) : Calls Try.prog 29 #[itA k nm 0 false (r : Int)] w (NewLen w 0) := by
  have hk := of_decide_eq_true h
  have b0 : (k == 0) = false := by simp; omega
  have b7 : (k == 7) = false := by simp; omega
  have b8 : (k == 8) = false := by simp; omega
  have b9 : (k == 9) = false := by simp; omega
  have HT := Lib.hid (fun W => spec_tag k W)
  have ht : 0 < tagW k := by
    unfold tagW
    (repeat' split) <;> omega
  obtain ⟨t, htt⟩ : ∃ t, tagW k = t := ⟨_, rfl⟩
  rw [htt] at HT ht
  clear h hk htt
  go_enter Try.func29, Try.ntmps29
  go_wp2_with fail
  refine (HT.out _).mono ?_
  rintro e w' ⟨rfl, rfl⟩
  go_wp2_with fail
  go_ret
  exact new_emp (by simp) (by go_grown)

set_option maxHeartbeats 1000000 in
theorem sc_word_ZFZ (k : Int) (h : wordK k = true) (nm : ByteArray) (hs : nm.size ≤ 4611686018427387904) (w : World) : Calls Try.prog 29 #[itA k nm 0 false 0] w (NewLen w (packs nm.data.toList).length) := by
  have hk := of_decide_eq_true h
  have b0 : (k == 0) = false := by simp; omega
  have b7 : (k == 7) = false := by simp; omega
  have b8 : (k == 8) = false := by simp; omega
  have b9 : (k == 9) = false := by simp; omega
  have HT := Lib.hid (fun W => spec_tag k W)
  have ht : 0 < tagW k := by
    unfold tagW
    (repeat' split) <;> omega
  have HWD := Lib.hid (fun t W => spec_word t nm hs W)
  clear hs
  obtain ⟨t, htt⟩ : ∃ t, tagW k = t := ⟨_, rfl⟩
  rw [htt] at HT ht
  clear h hk htt
  go_enter Try.func29, Try.ntmps29
  go_wp2_with fail
  refine (HT.out _).mono ?_
  rintro e w' ⟨rfl, rfl⟩
  go_wp2_with fail
  refine (HWD.out _ _).mono ?_
  rintro e w3 ⟨v, zs, rfl, hl, hz, hown, hb3⟩
  have HE := Lib.hid (show NewLen w (packs nm.data.toList).length (.returned v) w3 from ⟨v, zs, rfl, hl, hz, own_base hown (by simp), (((Below.refl w.heap.size w).alloc (Nat.le_refl _) _).trans (hb3.mono (by simp)))⟩)
  clear hl hz hown hb3
  go_wp2_with fail
  go_ret
  exact HE.out

set_option maxHeartbeats 1000000 in
theorem sc_else_NVV (k : Int) (h : ¬ (0 ≤ k ∧ k ≤ 9)) (nm : ByteArray) (n : Int) (hn : (n == 0) = false) (x : Bool) (r : Nat) (w : World) : Calls Try.prog 29 #[itA k nm n x (r : Int)] w (NewLen w 0) := by
  have b0 : (k == 0) = false := by simp; omega
  have b7 : (k == 7) = false := by simp; omega
  have b8 : (k == 8) = false := by simp; omega
  have b9 : (k == 9) = false := by simp; omega
  have ht : tagW k = 0 := by unfold tagW; rw [if_neg (by omega), if_neg (by omega), if_neg (by omega), if_neg (by omega), if_neg (by omega), if_neg (by omega)]
  have HT := Lib.hid (fun W => spec_tag k W)
  rw [ht] at HT
  clear h ht
  go_enter Try.func29, Try.ntmps29
  go_wp2_with fail
  refine (HT.out _).mono ?_
  rintro e w' ⟨rfl, rfl⟩
  go_wp2_with fail
  go_ret
  exact new_emp (by simp) (by go_grown)

set_option maxHeartbeats 1000000 in
theorem sc_else_ZTV (k : Int) (h : ¬ (0 ≤ k ∧ k ≤ 9)) (nm : ByteArray) (r : Nat) (w : World) : Calls Try.prog 29 #[itA k nm 0 true (r : Int)] w (NewLen w 0) := by
  have b0 : (k == 0) = false := by simp; omega
  have b7 : (k == 7) = false := by simp; omega
  have b8 : (k == 8) = false := by simp; omega
  have b9 : (k == 9) = false := by simp; omega
  have ht : tagW k = 0 := by unfold tagW; rw [if_neg (by omega), if_neg (by omega), if_neg (by omega), if_neg (by omega), if_neg (by omega), if_neg (by omega)]
  have HT := Lib.hid (fun W => spec_tag k W)
  rw [ht] at HT
  clear h ht
  go_enter Try.func29, Try.ntmps29
  go_wp2_with fail
  refine (HT.out _).mono ?_
  rintro e w' ⟨rfl, rfl⟩
  go_wp2_with fail
  go_ret
  exact new_emp (by simp) (by go_grown)

set_option maxHeartbeats 1000000 in
theorem sc_else_ZFN (k : Int) (h : ¬ (0 ≤ k ∧ k ≤ 9)) (nm : ByteArray) (r : Nat) (hr : ((r : Int) == 0) = false) (w : World) : Calls Try.prog 29 #[itA k nm 0 false (r : Int)] w (NewLen w 0) := by
  have b0 : (k == 0) = false := by simp; omega
  have b7 : (k == 7) = false := by simp; omega
  have b8 : (k == 8) = false := by simp; omega
  have b9 : (k == 9) = false := by simp; omega
  have ht : tagW k = 0 := by unfold tagW; rw [if_neg (by omega), if_neg (by omega), if_neg (by omega), if_neg (by omega), if_neg (by omega), if_neg (by omega)]
  have HT := Lib.hid (fun W => spec_tag k W)
  rw [ht] at HT
  clear h ht
  go_enter Try.func29, Try.ntmps29
  go_wp2_with fail
  refine (HT.out _).mono ?_
  rintro e w' ⟨rfl, rfl⟩
  go_wp2_with fail
  go_ret
  exact new_emp (by simp) (by go_grown)

set_option maxHeartbeats 1000000 in
theorem sc_else_ZFZ (k : Int) (h : ¬ (0 ≤ k ∧ k ≤ 9)) (nm : ByteArray) (w : World) : Calls Try.prog 29 #[itA k nm 0 false 0] w (NewLen w 0) := by
  have b0 : (k == 0) = false := by simp; omega
  have b7 : (k == 7) = false := by simp; omega
  have b8 : (k == 8) = false := by simp; omega
  have b9 : (k == 9) = false := by simp; omega
  have ht : tagW k = 0 := by unfold tagW; rw [if_neg (by omega), if_neg (by omega), if_neg (by omega), if_neg (by omega), if_neg (by omega), if_neg (by omega)]
  have HT := Lib.hid (fun W => spec_tag k W)
  rw [ht] at HT
  clear h ht
  go_enter Try.func29, Try.ntmps29
  go_wp2_with fail
  refine (HT.out _).mono ?_
  rintro e w' ⟨rfl, rfl⟩
  go_wp2_with fail
  go_ret
  exact new_emp (by simp) (by go_grown)

end Go.Proofs.Ytllhcdkbgknjdaa
