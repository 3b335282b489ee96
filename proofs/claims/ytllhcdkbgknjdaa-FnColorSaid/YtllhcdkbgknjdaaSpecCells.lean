/-
  CellsOf and ItemOk of the model: how many cells an item has.
-/
import Derived.Test.YtllhcdkbgknjdaaSpecRaw
import Derived.Test.YtllhcdkbgknjdaaSpecYel
import Derived.Test.YtllhcdkbgknjdaaSpecGreen
import Derived.Test.YtllhcdkbgknjdaaSpecWords
import Derived.Test.YtllhcdkbgknjdaaSpecVar
import Derived.Test.YtllhcdkbgknjdaaItemOk
namespace Go.Proofs.Ytllhcdkbgknjdaa
open Go.RowKit Go

theorem txt_ne {nm : ByteArray} (h : ¬ nm = noText) : nm.toList.isEmpty = false := by
  rw [ByteArray.toList_eq]
  cases hq : nm.data.toList with
  | nil =>
    refine absurd ?_ h
    obtain ⟨⟨l⟩⟩ := nm
    simp at hq
    rw [hq]
    rfl
  | cons a b => rfl
theorem int_ne {n : Int} (h : ¬ n = 0) : (n == 0) = false := by simpa using h
theorem nat_ne {r : Nat} (h : ¬ r = 0) : ((r : Int) == 0) = false := by simp; exact h
theorem spec_num (n : Int) (x : Bool) (s l : Nat) (w : World) : Calls Try.prog 35 #[.int .i32 n, .bool x, .int .u32 s, .int .u32 l] w (NewLen w (numCells n x s l).length) := by
  unfold numCells
  by_cases h : n < -67108864 ∨ 67108863 < n
  · rw [if_pos (show wideN n = true from decide_eq_true h)]
    exact spec_wide n x s l h w
  · rw [if_neg (by rw [show wideN n = false from decide_eq_false h]; decide)]
    exact spec_narrow n x s l (by omega) (by omega) w
theorem four (n : Int) (x : Bool) (r : Nat) : ¬ n = 0 ∨ (n = 0 ∧ x = true) ∨ (n = 0 ∧ x = false ∧ ¬ r = 0) ∨ (n = 0 ∧ x = false ∧ r = 0) := by
  by_cases h : n = 0
  · cases x with
    | true => exact .inr (.inl ⟨h, rfl⟩)
    | false =>
      by_cases hr : r = 0
      · exact .inr (.inr (.inr ⟨h, rfl, hr⟩))
      · exact .inr (.inr (.inl ⟨h, rfl, hr⟩))
  · exact .inl h
theorem spec_cells_raw (nm : ByteArray) (n : Int) (x : Bool) (r : Nat) (hr4 : r < 4294967296) (w : World) : Calls Try.prog 29 #[itA 0 nm n x (r : Int)] w (NewLen w (cellsOf ⟨0, nm, n, x, r⟩).length) := by
  rcases four n x r with hn | ⟨rfl, rfl⟩ | ⟨rfl, rfl, hr⟩ | ⟨rfl, rfl, rfl⟩ <;> by_cases hm : nm = noText
  · subst hm
    rw [show (cellsOf ⟨0, noText, n, x, r⟩).length = 0 by simp [cellsOf, hn]]
    exact sc_raw_NVVE n (int_ne hn) x r w
  · rw [show (cellsOf ⟨0, nm, n, x, r⟩).length = 0 by simp [cellsOf, hn]]
    exact sc_raw_NVVN nm (txt_ne hm) n (int_ne hn) x r w
  · subst hm
    exact sc_raw_ZTVE r w
  · rw [show (cellsOf ⟨0, nm, 0, true, r⟩).length = 0 by simp [cellsOf]]
    exact sc_raw_ZTVN nm (txt_ne hm) r w
  · subst hm
    rw [show (cellsOf ⟨0, noText, 0, false, r⟩).length = 1 by simp [cellsOf]]
    exact sc_raw_ZFNE r (nat_ne hr) hr4 w
  · rw [show (cellsOf ⟨0, nm, 0, false, r⟩).length = 0 by simp [cellsOf, hm]]
    exact sc_raw_ZFNN nm (txt_ne hm) r (nat_ne hr) w
  · subst hm
    exact sc_raw_ZFZE w
  · rw [show (cellsOf ⟨0, nm, 0, false, 0⟩).length = 0 by simp [cellsOf, hm]]
    exact sc_raw_ZFZN nm (txt_ne hm) w
theorem spec_cells_yel (nm : ByteArray) (n : Int) (x : Bool) (r : Nat) (w : World) : Calls Try.prog 29 #[itA 7 nm n x (r : Int)] w (NewLen w (cellsOf ⟨7, nm, n, x, r⟩).length) := by
  rw [cells_nums (it := ⟨7, nm, n, x, r⟩) (.inl rfl)]
  have HN := Lib.hid (fun W => spec_num n x 8 2 W)
  by_cases hm : nm = noText
  · subst hm
    by_cases hr0 : r = 0
    · subst hr0
      show Calls _ _ _ _ (NewLen w (numCells n x 8 2).length)
      rcases four n x 0 with hn | ⟨rfl, rfl⟩ | ⟨rfl, rfl, hr⟩ | ⟨rfl, rfl, _⟩
      · exact sc_n7_NVZE n (int_ne hn) x _ HN w
      · exact sc_n7_ZTZE _ HN w
      · exact absurd rfl hr
      · exact sc_n7_ZFZE _ HN w
    · rw [if_neg (fun h => hr0 h.2)]
      rcases four n x r with hn | ⟨rfl, rfl⟩ | ⟨rfl, rfl, hr⟩ | ⟨rfl, rfl, hr⟩
      · exact sc_n7_NVNE n (int_ne hn) x r (nat_ne hr0) w
      · exact sc_n7_ZTNE r (nat_ne hr0) w
      · exact sc_n7_ZFNE r (nat_ne hr0) w
      · exact absurd hr hr0
  · rw [if_neg (fun h => hm h.1)]
    rcases four n x r with hn | ⟨rfl, rfl⟩ | ⟨rfl, rfl, hr⟩ | ⟨rfl, rfl, rfl⟩
    · exact sc_n7_NVVN nm (txt_ne hm) n (int_ne hn) x r w
    · exact sc_n7_ZTVN nm (txt_ne hm) r w
    · exact sc_n7_ZFNN nm (txt_ne hm) r (nat_ne hr) w
    · exact sc_n7_ZFZN nm (txt_ne hm) w
theorem spec_cells_green (nm : ByteArray) (n : Int) (x : Bool) (r : Nat) (w : World) : Calls Try.prog 29 #[itA 8 nm n x (r : Int)] w (NewLen w (cellsOf ⟨8, nm, n, x, r⟩).length) := by
  rw [cells_nums (it := ⟨8, nm, n, x, r⟩) (.inr rfl)]
  have HN := Lib.hid (fun W => spec_num n x 6 5 W)
  by_cases hm : nm = noText
  · subst hm
    by_cases hr0 : r = 0
    · subst hr0
      show Calls _ _ _ _ (NewLen w (numCells n x 6 5).length)
      rcases four n x 0 with hn | ⟨rfl, rfl⟩ | ⟨rfl, rfl, hr⟩ | ⟨rfl, rfl, _⟩
      · exact sc_n8_NVZE n (int_ne hn) x _ HN w
      · exact sc_n8_ZTZE _ HN w
      · exact absurd rfl hr
      · exact sc_n8_ZFZE _ HN w
    · rw [if_neg (fun h => hr0 h.2)]
      rcases four n x r with hn | ⟨rfl, rfl⟩ | ⟨rfl, rfl, hr⟩ | ⟨rfl, rfl, hr⟩
      · exact sc_n8_NVNE n (int_ne hn) x r (nat_ne hr0) w
      · exact sc_n8_ZTNE r (nat_ne hr0) w
      · exact sc_n8_ZFNE r (nat_ne hr0) w
      · exact absurd hr hr0
  · rw [if_neg (fun h => hm h.1)]
    rcases four n x r with hn | ⟨rfl, rfl⟩ | ⟨rfl, rfl, hr⟩ | ⟨rfl, rfl, rfl⟩
    · exact sc_n8_NVVN nm (txt_ne hm) n (int_ne hn) x r w
    · exact sc_n8_ZTVN nm (txt_ne hm) r w
    · exact sc_n8_ZFNN nm (txt_ne hm) r (nat_ne hr) w
    · exact sc_n8_ZFZN nm (txt_ne hm) w
theorem spec_cells_var (nm : ByteArray) (n : Int) (x : Bool) (r : Nat) (hs : nm.size ≤ 4611686018427387904) (w : World) : Calls Try.prog 29 #[itA 9 nm n x (r : Int)] w (NewLen w (cellsOf ⟨9, nm, n, x, r⟩).length) := by
  have HW := Lib.hid (fun W => spec_word 12 nm hs W)
  have e : cellsOf ⟨9, nm, n, x, r⟩ = if x = false ∧ r = 0 then varCells (packs nm.data.toList) n else [] := rfl
  rw [e]
  obtain ⟨m, hm⟩ : ∃ m, (packs nm.data.toList).length = m := ⟨_, rfl⟩
  by_cases h1 : m = 1
  · by_cases hy : x = false ∧ r = 0
    · rw [if_pos hy, varCells_count, if_pos (by omega)]
      obtain ⟨rfl, rfl⟩ := hy
      rw [hm] at HW
      by_cases hn : n = 0
      · subst hn
        exact sc_var_ZFZ nm m h1 HW w
      · exact sc_var_NFZ nm n (int_ne hn) m h1 HW w
    · rw [if_neg hy]
      rw [hm] at HW
      rcases four n x r with hn | ⟨rfl, rfl⟩ | ⟨rfl, rfl, hr⟩ | ⟨rfl, rfl, hr⟩
      · cases x with
        | true => exact sc_var_NTV nm n (int_ne hn) r m h1 HW w
        | false => exact sc_var_NFN nm n (int_ne hn) r (nat_ne fun h => hy ⟨rfl, h⟩) m h1 HW w
      · exact sc_var_ZTV nm r m h1 HW w
      · exact sc_var_ZFN nm r (nat_ne hr) m h1 HW w
      · exact absurd ⟨rfl, hr⟩ hy
  · have e0 : (if x = false ∧ r = 0 then varCells (packs nm.data.toList) n else []).length = 0 := by
      split
      · rw [varCells_count, if_neg (by omega)]
      · rfl
    rw [e0]
    rw [hm] at HW
    rcases four n x r with hn | ⟨rfl, rfl⟩ | ⟨rfl, rfl, hr⟩ | ⟨rfl, rfl, rfl⟩
    · exact sc_vno_NVV nm n (int_ne hn) x r m h1 HW w
    · exact sc_vno_ZTV nm r m h1 HW w
    · exact sc_vno_ZFN nm r (nat_ne hr) m h1 HW w
    · exact sc_vno_ZFZ nm m h1 HW w
theorem spec_cellsof (it : It) (hin : ItIn it) (w : World) : Calls Try.prog 29 #[itVal it] w (NewLen w (cellsOf it).length) := by
  have hin2 := hin
  obtain ⟨k, nm, n, x, r⟩ := it
  obtain ⟨-, -, -, -, hr4, hs⟩ := hin2
  by_cases h0 : k = 0
  · subst h0; exact spec_cells_raw nm n x r hr4 w
  by_cases h7 : k = 7
  · subst h7; exact spec_cells_yel nm n x r w
  by_cases h8 : k = 8
  · subst h8; exact spec_cells_green nm n x r w
  by_cases h9 : k = 9
  · subst h9; exact spec_cells_var nm n x r hs w
  by_cases hw : 1 ≤ k ∧ k ≤ 6
  · rw [cells_words (it := ⟨k, nm, n, x, r⟩) hw]
    have hw2 : wordK k = true := decide_eq_true hw
    rcases four n x r with hn | ⟨rfl, rfl⟩ | ⟨rfl, rfl, hr⟩ | ⟨rfl, rfl, rfl⟩
    · rw [if_neg (fun h => hn h.1)]
      exact sc_word_NVV k hw2 nm n (int_ne hn) x r w
    · rw [if_neg (fun h => Bool.noConfusion (h.2.1 : true = false))]
      exact sc_word_ZTV k hw2 nm r w
    · rw [if_neg (fun h => hr h.2.2)]
      exact sc_word_ZFN k hw2 nm r (nat_ne hr) w
    · rw [if_pos ⟨rfl, rfl, rfl⟩, wordCells_len]
      exact sc_word_ZFZ k hw2 nm hs w
  · have e : cellsOf ⟨k, nm, n, x, r⟩ = [] := by
      unfold cellsOf
      rw [if_neg h0, if_neg (by show ¬ (k = 7 ∨ k = 8); omega), if_neg h9, if_neg hw]
    rw [e]
    have hk : ¬ (0 ≤ k ∧ k ≤ 9) := by omega
    rcases four n x r with hn | ⟨rfl, rfl⟩ | ⟨rfl, rfl, hr⟩ | ⟨rfl, rfl, rfl⟩
    · exact sc_else_NVV k hk nm n (int_ne hn) x r w
    · exact sc_else_ZTV k hk nm r w
    · exact sc_else_ZFN k hk nm r (nat_ne hr) w
    · exact sc_else_ZFZ k hk nm w
theorem spec_itemok (it : It) (hin : ItIn it) (w : World) : Calls Try.prog 20 #[itVal it] w fun e w' => e = .returned (.bool (decide (cellsOf it ≠ []))) ∧ Below w.heap.size w w' := by
  have HC := Lib.hid (fun W => spec_cellsof it hin W)
  obtain ⟨k, nm, n, x, r⟩ := it
  have hd : decide (cellsOf ⟨k, nm, n, x, r⟩ ≠ []) = decide (0 < (cellsOf ⟨k, nm, n, x, r⟩).length) := decide_eq_decide.2 List.length_pos_iff.symm
  rw [hd]
  obtain ⟨m, hm⟩ : ∃ m, (cellsOf ⟨k, nm, n, x, r⟩).length = m := ⟨_, rfl⟩
  rw [hm] at HC ⊢
  clear hm hd hin
  by_cases h0 : 0 < m
  · have e : decide (0 < m) = true := decide_eq_true h0
    rw [e]
    clear e
    go_enter Try.func20, Try.ntmps20
    go_wp2_with fail
    refine (HC.out _).mono ?_
    rintro e w1 ⟨v, zs, rfl, hl, -, hown, hb⟩
    obtain ⟨A, cap, rfl⟩ := own_slice hown
    have HB := Lib.hid (((Below.refl w.heap.size w).alloc (Nat.le_refl _) _).trans (hb.mono (by simp)))
    subst hl
    clear hown hb HC
    go_wp2_with fail
    go_ret
    exact ⟨rfl, HB.out⟩
  · have e : decide (0 < m) = false := decide_eq_false h0
    rw [e]
    obtain rfl : m = 0 := by omega
    clear e h0
    go_enter Try.func20, Try.ntmps20
    go_wp2_with fail
    refine (HC.out _).mono ?_
    rintro e w1 ⟨v, zs, rfl, hl, -, hown, hb⟩
    obtain ⟨A, cap, rfl⟩ := own_slice hown
    rw [hl]
    have HB := Lib.hid (((Below.refl w.heap.size w).alloc (Nat.le_refl _) _).trans (hb.mono (by simp)))
    clear hown hb HC hl
    go_wp2_with fail
    go_ret
    exact ⟨rfl, HB.out⟩
end Go.Proofs.Ytllhcdkbgknjdaa
