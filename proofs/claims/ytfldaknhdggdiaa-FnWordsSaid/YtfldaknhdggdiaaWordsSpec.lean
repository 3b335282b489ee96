/-
  spec.Words answers a new list: the words of a text.
-/
import Derived.Test.YtfldaknhdggdiaaLinesSpec
import Derived.Test.YtfldaknhdggdiaaWordsImpl
namespace Go.Proofs.Ytfldaknhdggdiaa
open Go.RowKit Go

theorem blank_any (c : UInt8) (w : World) : Calls Try.prog 23 #[.int .u8 (c.toNat : Int)] w fun e w' => e = .returned (.bool (qSp (c.toNat : Int))) ∧ w = w' := by
  obtain ⟨r, hr⟩ : ∃ r : Int, (c.toNat : Int) = r := ⟨_, rfl⟩
  rw [hr]
  clear hr
  by_cases h1 : r = 32
  · subst h1
    go_enter Try.func23, Try.ntmps23
    go_wp2
    go_ret
    exact ⟨rfl, rfl⟩
  · have h1' : (r == 32) = false := by simpa using h1
    by_cases h2 : r = 9
    · subst h2
      go_enter Try.func23, Try.ntmps23
      go_wp2
      go_ret
      exact ⟨rfl, rfl⟩
    · have h2' : (r == 9) = false := by simpa using h2
      have hq : qSp r = (r == 10) := by unfold qSp; rw [h1', h2']; simp
      rw [hq]
      clear hq h1 h2
      go_enter Try.func23, Try.ntmps23
      go_wp2
      go_ret
      exact ⟨rfl, rfl⟩

/-- The words from a place on. -/
def wordsFrom (s : ByteArray) (i : Nat) : List ByteArray := full ((splitB (onByte qSp) (s.data.toList.drop i)).map fun l => ⟨l.toArray⟩)
theorem wordsFrom_zero (s : ByteArray) : wordsFrom s 0 = wordsOf s := by simp [wordsFrom, wordsOf, partsOf]
theorem wordsFrom_end (s : ByteArray) (i : Nat) (h : s.size ≤ i) : wordsFrom s i = [] := by
  unfold wordsFrom
  rw [List.drop_eq_nil_of_le (by rw [size_list]; exact h)]
  rfl
theorem full_cons_empty (l : List ByteArray) : full ((⟨#[]⟩ : ByteArray) :: l) = full l := by
  unfold full
  rw [List.filter_cons_of_neg (by simp; rfl)]
theorem wordsFrom_blank (s : ByteArray) (i : Nat) (h : i < s.size) (hb : qSp (s[i].toNat : Int) = true) : wordsFrom s i = wordsFrom s (i + 1) := by
  unfold wordsFrom
  rw [split_at (Nat.le_refl i) (by rw [size_list]; exact h) (fun j _ h1 h2 => by omega) hb, Nat.sub_self, List.take_zero, List.map_cons]
  exact full_cons_empty _
theorem wordsFrom_word (s : ByteArray) (i e : Nat) (hie : i < e) (he : e ≤ s.size) (hn : ∀ j (h : j < s.data.toList.length), i ≤ j → j < e → onByte qSp (s.data.toList[j]) = false) (hend : ∀ h : e < s.size, qSp (s[e].toNat : Int) = true) : wordsFrom s i = s.extract i e :: wordsFrom s e := by
  have hx : ∀ l, full (s.extract i e :: l) = s.extract i e :: full l := fun l => by
    unfold full
    rw [List.filter_cons_of_pos]
    have : (s.extract i e).size ≠ 0 := by rw [ext_size]; omega
    simpa using this
  by_cases h : e < s.size
  · rw [wordsFrom_blank s e h (hend h)]
    unfold wordsFrom
    rw [split_at (Nat.le_of_lt hie) (by rw [size_list]; exact h) hn (hend h), List.map_cons, ← piece, hx]
  · obtain rfl : e = s.size := by omega
    rw [wordsFrom_end s s.size (Nat.le_refl _)]
    unfold wordsFrom
    rw [split_rest (fun j hj h1 => hn j hj h1 (by rw [size_list] at hj; exact hj)), List.map_cons, List.map_nil, ← piece_end, hx]
    rfl

set_option maxRecDepth 100000 in
set_option maxHeartbeats 2000000 in
theorem spec_words (s : ByteArray) (hs : s.size ≤ 1048576) (w : World) :
    Calls Try.prog 12 #[.string s] w (NewStrs w (wordsOf s)) := by
  obtain ⟨i0, hi, hz0, hz1, hz2⟩ := info_parts infoS
  have hN : (wordsOf s).length ≤ 1048577 := by
    have h1 : (wordsOf s).length ≤ (partsOf qSp s).length := List.length_filter_le _ _
    have h2 := partsOf_len qSp s
    omega
  go_enter Try.func12, Try.ntmps12
  go_wp2
  go_loopw [3, 4, 5] (fun vo vi _ wr => ∃ (pre : List ByteArray) (i : Nat), vi = .int .i64 i ∧ i ≤ s.size ∧ Hid (pre ++ wordsFrom s i = wordsOf s) ∧ wr.ownsRow w.heap.size 9 1 vo pre.length (pre.map Value.string) ∧ Below w.heap.size w wr) (fun _ i _ _ => s.size - (intOf i).toNat)
  case atStart => exact ⟨[], 0, rfl, by omega, by rw [wordsFrom_zero]; rfl, own_empty _ _, (Below.refl _ _).alloc (Nat.le_refl _) _⟩
  case round =>
    rename World => wr
    obtain ⟨wo, rfl⟩ : ∃ wo : World, wo = wr := ⟨_, rfl⟩
    obtain ⟨pre, i, rfl, hil, HA, hown, hB⟩ := hrel
    by_cases hp : i < s.size
    · by_cases hc : qSp (s[i].toNat : Int) = true
      · have HQ := Lib.hid hc
        have HC : Hid (pre ++ wordsFrom s (i + 1) = wordsOf s) := Lib.hid (by rw [← wordsFrom_blank s i hp hc]; exact HA.out)
        clear hc
        go_wp2_with (go_at_call 23; refine (blank_any _ _).mono ?_; rintro e w' ⟨he, rfl⟩; rw [HQ.out] at he; subst he)
        go_roundw
        case rel => exact ⟨pre, i + 1, by go_num, by omega, HC.out, hown, hB⟩
        case measure => simp [intOf]; omega
      · have hc' : qSp (s[i].toNat : Int) = false := by simpa using hc
        have HQ := Lib.hid hc'
        clear hc hc'
        go_wp2_with (go_at_call 23; refine (blank_any _ _).mono ?_; rintro e w' ⟨he, rfl⟩; rw [HQ.out] at he; subst he)
        have HQ0 := HQ
        clear HQ
        go_loop [5] (fun ve => ∃ e : Nat, ve = .int .i64 e ∧ i ≤ e ∧ e ≤ s.size ∧ Hid (∀ j (h : j < s.data.toList.length), i ≤ j → j < e → onByte qSp (s.data.toList[j]) = false)) (fun ve => s.size - (intOf ve).toNat)
        case atStart => exact ⟨i, rfl, by omega, by omega, fun j _ h1 h2 => by omega⟩
        case round =>
          obtain ⟨e, rfl, hie, hes, HE⟩ := hrel
          by_cases hp2 : e < s.size
          · by_cases hc2 : qSp (s[e].toNat : Int) = true
            · have HQ := Lib.hid hc2
              have hlt : i < e := by
                rcases Nat.eq_or_lt_of_le hie with h | h
                · subst h
                  have := HQ0.out
                  rw [hc2] at this
                  cases this
                · exact h
              have hw := wordsFrom_word s i e hlt hes HE.out (fun _ => hc2)
              have HW : Hid (pre ++ [s.extract i e] ++ wordsFrom s e = wordsOf s) := Lib.hid (by rw [← HA.out, hw]; simp)
              have hlen : pre.length + 1 ≤ 1048577 := by have := congrArg List.length HW.out; simp at this; omega
              have i1 : (i : Int) ≤ (e : Int) := by omega
              clear hc2 hw
              go_wp2_with (first | (go_at_call 23; refine (blank_any _ _).mono ?_; rintro e w' ⟨he, rfl⟩; rw [HQ.out] at he; subst he) | (at_builtin; refine wpList_append_own _ rfl _ _ 25 rfl w.heap.size 9 i0 (.string ⟨#[]⟩) 1 16 Try.underlying25 hi hz0 hz1 hz2 rfl (by decide) _ _ _ rfl (hown.alloc _) ⟨wo.heap.size, 0, none⟩ 1 1 [.string (s.extract i e)] rfl rfl (cell_one_new _ _ _) (by simp [Value.oneCell']) (by unfold maxLen; omega) (by omega) (by have := hB.size; simp; omega) ?_; intro v' w1 hown' hgrow _))
              go_roundw
              case rel => exact ⟨pre ++ [s.extract i e], e, rfl, by omega, HW.out, by simpa using hown', (hB.alloc (by have := hB.size; omega) _).grown hgrow (by have := hB.size; simp; omega) (own_lt hown)⟩
              case measure => simp [intOf]; omega
            · have hc2' : qSp (s[e].toNat : Int) = false := by simpa using hc2
              have HQ := Lib.hid hc2'
              have HE2 : Hid (∀ j (h : j < s.data.toList.length), i ≤ j → j < e + 1 → onByte qSp (s.data.toList[j]) = false) := Lib.hid fun j hj h1 h2 => by
                rcases Nat.lt_or_ge j e with h3 | h3
                · exact HE.out j hj h1 h3
                · obtain rfl : j = e := by omega
                  exact hc2'
              clear hc2 hc2'
              go_wp2_with (go_at_call 23; refine (blank_any _ _).mono ?_; rintro e w' ⟨he, rfl⟩; rw [HQ.out] at he; subst he)
              go_round
              case rel => exact ⟨e + 1, by go_num, by omega, by omega, HE2.out⟩
              case measure => simp [intOf]; omega
          · obtain rfl : e = s.size := by omega
            have hw := wordsFrom_word s i s.size hp (Nat.le_refl _) HE.out (fun h => absurd h (by omega))
            have HW : Hid (pre ++ [s.extract i s.size] ++ wordsFrom s s.size = wordsOf s) := Lib.hid (by rw [← HA.out, hw]; simp)
            have hlen : pre.length + 1 ≤ 1048577 := by have := congrArg List.length HW.out; simp at this; omega
            have i1 : (i : Int) ≤ (s.size : Int) := by omega
            clear hw
            go_wp2_with (at_builtin; refine wpList_append_own _ rfl _ _ 25 rfl w.heap.size 9 i0 (.string ⟨#[]⟩) 1 16 Try.underlying25 hi hz0 hz1 hz2 rfl (by decide) _ _ _ rfl (hown.alloc _) ⟨wo.heap.size, 0, none⟩ 1 1 [.string (s.extract i s.size)] rfl rfl (cell_one_new _ _ _) (by simp [Value.oneCell']) (by unfold maxLen; omega) (by omega) (by have := hB.size; simp; omega) ?_; intro v' w1 hown' hgrow _)
            go_roundw
            case rel => exact ⟨pre ++ [s.extract i s.size], s.size, rfl, by omega, HW.out, by simpa using hown', (hB.alloc (by have := hB.size; omega) _).grown hgrow (by have := hB.size; simp; omega) (own_lt hown)⟩
            case measure => simp [intOf]; omega
    · have hw := wordsFrom_end s i (by omega)
      have HW : Hid (pre = wordsOf s) := Lib.hid (by rw [← HA.out, hw]; simp)
      clear hw
      go_wp2
      go_ret
      rw [← HW.out]
      exact ⟨_, rfl, hown, hB⟩
end Go.Proofs.Ytfldaknhdggdiaa
