/-
  CellsOf and ItemOk of the program: how many cells an item has, whatever the tables hold.
-/
import Derived.Test.YtllhcdkbgknjdaaCellsOfW
import Derived.Test.YtllhcdkbgknjdaaCellsOfN
import Derived.Test.YtllhcdkbgknjdaaCellsOfV
import Derived.Test.YtllhcdkbgknjdaaCellsOfR
namespace Go.Proofs.Ytllhcdkbgknjdaa
open Go.RowKit Go

theorem varCells_count (l : List Nat) (n : Int) : (varCells l n).length = if l.length = 1 then 2 else 0 := by
  match l with
  | [] => rfl
  | [f] => rfl
  | _ :: _ :: _ => simp [varCells]
theorem impl_cellsof (it : It) (hin : ItIn it) (w : World) (hcs : TabsAny w) : Calls Try.prog 9 #[itVal it] w (NewLen w (cellsOf it).length) := by
  have hin2 := hin
  obtain ⟨k, nm, n, x, r⟩ := it
  obtain ⟨-, -, -, -, hr, hs⟩ := hin2
  by_cases hw : 1 ≤ k ∧ k ≤ 6
  · rw [cells_words (it := ⟨k, nm, n, x, r⟩) hw]
    have hw2 : wordK k = true := decide_eq_true hw
    split
    · rename_i h
      obtain ⟨h1, h2, h3⟩ : n = 0 ∧ x = false ∧ r = 0 := h
      subst h1 h2 h3
      rw [wordCells_len]
      exact cellsof_word_yes k nm hw2 hs w hcs
    · rename_i h
      exact cellsof_word_no k nm n x r hw2 (fun e => h (by injection e with _ _ e3 e4 e5; exact ⟨e3.symm, e4.symm, e5.symm⟩)) w
  · by_cases hn : k = 7 ∨ k = 8
    · rw [cells_nums (it := ⟨k, nm, n, x, r⟩) hn]
      have hn2 : numK k = true := decide_eq_true (by omega)
      split
      · rename_i h
        obtain ⟨h1, h2⟩ : nm = noText ∧ r = 0 := h
        subst h1 h2
        by_cases hwd : n < -67108864 ∨ 67108863 < n
        · have e : (numCells n x (shortOf k) (longOf k)).length = 2 := by unfold numCells; rw [if_pos (show wideN n = true from decide_eq_true hwd)]; rfl
          show Calls _ _ _ _ (NewLen w (numCells n x (shortOf k) (longOf k)).length)
          rw [e]
          exact cellsof_wide k n x hn2 hwd w hcs
        · have e : (numCells n x (shortOf k) (longOf k)).length = 1 := by unfold numCells; rw [if_neg (by rw [show wideN n = false from decide_eq_false hwd]; decide)]; rfl
          show Calls _ _ _ _ (NewLen w (numCells n x (shortOf k) (longOf k)).length)
          rw [e]
          exact cellsof_narrow k n x hn2 (by omega) (by omega) w hcs
      · rename_i h
        exact cellsof_num_no k nm n x r hn2 (fun e => h (by injection e with _ e2 _ _ e5; exact ⟨e2.symm, e5.symm⟩)) w
    · by_cases h9 : k = 9
      · have e : cellsOf ⟨k, nm, n, x, r⟩ = if x = false ∧ r = 0 then varCells (packs nm.data.toList) n else [] := by
          unfold cellsOf
          rw [if_neg (by show ¬ k = 0; omega), if_neg (by show ¬ (k = 7 ∨ k = 8); omega), if_pos h9]
        rw [e]
        split
        · rename_i h
          obtain ⟨h1, h2⟩ := h
          subst h1 h2
          exact cellsof_var_yes k nm n h9 hs _ (varCells_count _ _).symm w hcs
        · rename_i h
          exact cellsof_var_no k nm n x r h9 (fun e => h (by injection e with _ _ _ e4 e5; exact ⟨e4.symm, e5.symm⟩)) w
      · by_cases h0 : k = 0 ∧ nm = noText ∧ n = 0 ∧ x = false
        · obtain ⟨h1, h2, h3, h4⟩ := h0
          subst h1 h2 h3 h4
          have e : (cellsOf ⟨0, noText, 0, false, r⟩).length = 1 := rfl
          rw [e]
          exact cellsof_raw_yes r hr w hcs
        · have e : cellsOf ⟨k, nm, n, x, r⟩ = [] := by
            unfold cellsOf
            by_cases hk : k = 0
            · rw [if_pos hk, if_neg (fun h => h0 ⟨hk, h.1, h.2.1, h.2.2⟩)]
            · rw [if_neg hk, if_neg hn, if_neg h9, if_neg hw]
          rw [e]
          exact cellsof_raw_no k nm n x r (by omega) (fun e => h0 (by injection e with e1 e2 e3 e4 _; exact ⟨e1.symm, e2.symm, e3.symm, e4.symm⟩)) w
theorem impl_itemok (it : It) (hin : ItIn it) (w : World) (hcs : TabsAny w) : Calls Try.prog 16 #[itVal it] w fun e w' => e = .returned (.bool (decide (cellsOf it ≠ []))) ∧ Below w.heap.size w w' := by
  have HC := Lib.hid (fun W (hb : Below w.heap.size w W) => impl_cellsof it hin W (hcs.below hb))
  obtain ⟨k, nm, n, x, r⟩ := it
  have hd : decide (cellsOf ⟨k, nm, n, x, r⟩ ≠ []) = decide (0 < (cellsOf ⟨k, nm, n, x, r⟩).length) := decide_eq_decide.2 List.length_pos_iff.symm
  rw [hd]
  obtain ⟨m, hm⟩ : ∃ m, (cellsOf ⟨k, nm, n, x, r⟩).length = m := ⟨_, rfl⟩
  rw [hm] at HC ⊢
  clear hm hd hcs hin
  by_cases h0 : 0 < m
  · have e : decide (0 < m) = true := decide_eq_true h0
    rw [e]
    clear e
    go_enter Try.func16, Try.ntmps16
    go_wp2_with fail
    refine (HC.out _ ((Below.refl _ _).alloc (Nat.le_refl _) _)).mono ?_
    rintro e w1 ⟨v, zs, rfl, hl, -, hown, hb⟩
    obtain ⟨A, cap, rfl⟩ := own_slice hown
    have HB := Lib.hid (((Below.refl w.heap.size w).alloc (Nat.le_refl _) _).trans (hb.mono (by simp)))
    subst hl
    clear hown hb HC
    go_wp2_with fail
    go_ret
    exact ⟨rfl, HB.out⟩
  · have e : decide (0 < m) = false := decide_eq_false h0
    rw [e]
    obtain rfl : m = 0 := by omega
    clear e h0
    go_enter Try.func16, Try.ntmps16
    go_wp2_with fail
    refine (HC.out _ ((Below.refl _ _).alloc (Nat.le_refl _) _)).mono ?_
    rintro e w1 ⟨v, zs, rfl, hl, -, hown, hb⟩
    obtain ⟨A, cap, rfl⟩ := own_slice hown
    rw [hl]
    have HB := Lib.hid (((Below.refl w.heap.size w).alloc (Nat.le_refl _) _).trans (hb.mono (by simp)))
    clear hown hb HC hl
    go_wp2_with fail
    go_ret
    exact ⟨rfl, HB.out⟩
end Go.Proofs.Ytllhcdkbgknjdaa
