/-
  PrimOf: the model; the program's closure.
-/
import Derived.Test.YthelbjlckndklaaDoorPrimName
namespace Go.Proofs.YthelbjlckndklaaDoor
open Go.RowKit Go

/-- The number of the word of that name; -1 where there is none. -/
def primAt (nm : ByteArray) : Nat := primNames.findIdx fun x => x.toList == nm.toList
def primIdx (nm : ByteArray) : Int := if primAt nm < 24 then (primAt nm : Int) else -1
theorem primIdx_yes {nm : ByteArray} {i : Nat} (hi : i < 24) (he : ((primNames.getD i ⟨#[]⟩).toList == nm.toList) = true) (hn : ∀ j, j < i → ((primNames.getD j ⟨#[]⟩).toList == nm.toList) = false) : primIdx nm = (i : Int) := by
  have hl : primNames.length = 24 := rfl
  have e : primAt nm = i := by
    unfold primAt
    rw [List.findIdx_eq (by rw [hl]; exact hi)]
    refine ⟨by simpa [List.getD, hi, hl] using he, fun j hj => ?_⟩
    have := hn j hj
    rw [List.getD, List.getElem?_eq_getElem (by omega)] at this
    exact this
  unfold primIdx
  rw [e, if_pos hi]
theorem primIdx_no {nm : ByteArray} (hn : ∀ j, j < 24 → ((primNames.getD j ⟨#[]⟩).toList == nm.toList) = false) : primIdx nm = -1 := by
  have hl : primNames.length = 24 := rfl
  have e : ¬ primAt nm < 24 := by
    intro h
    have h2 := List.findIdx_getElem (xs := primNames) (p := fun x => x.toList == nm.toList) (w := by rw [hl]; exact h)
    have h3 := hn (primAt nm) h
    rw [List.getD, List.getElem?_eq_getElem (by rw [hl]; exact h)] at h3
    unfold primAt at h3
    simp only [Option.getD_some] at h3
    rw [h3] at h2
    cases h2
  unfold primIdx
  rw [if_neg e]
theorem prim_cells (k : Nat) (hk : k < 24) : ∃ (t : Int) (q : FuncId), primCells[k * 3]? = some (.string (primNames.getD k ⟨#[]⟩)) ∧ primCells[k * 3 + 1]? = some (.int .i64 t) ∧ primCells[k * 3 + 2]? = some (.func (.func q) #[] #[]) := by
  match k, hk with
  | 0, _ => exact ⟨_, _, rfl, rfl, rfl⟩
  | 1, _ => exact ⟨_, _, rfl, rfl, rfl⟩
  | 2, _ => exact ⟨_, _, rfl, rfl, rfl⟩
  | 3, _ => exact ⟨_, _, rfl, rfl, rfl⟩
  | 4, _ => exact ⟨_, _, rfl, rfl, rfl⟩
  | 5, _ => exact ⟨_, _, rfl, rfl, rfl⟩
  | 6, _ => exact ⟨_, _, rfl, rfl, rfl⟩
  | 7, _ => exact ⟨_, _, rfl, rfl, rfl⟩
  | 8, _ => exact ⟨_, _, rfl, rfl, rfl⟩
  | 9, _ => exact ⟨_, _, rfl, rfl, rfl⟩
  | 10, _ => exact ⟨_, _, rfl, rfl, rfl⟩
  | 11, _ => exact ⟨_, _, rfl, rfl, rfl⟩
  | 12, _ => exact ⟨_, _, rfl, rfl, rfl⟩
  | 13, _ => exact ⟨_, _, rfl, rfl, rfl⟩
  | 14, _ => exact ⟨_, _, rfl, rfl, rfl⟩
  | 15, _ => exact ⟨_, _, rfl, rfl, rfl⟩
  | 16, _ => exact ⟨_, _, rfl, rfl, rfl⟩
  | 17, _ => exact ⟨_, _, rfl, rfl, rfl⟩
  | 18, _ => exact ⟨_, _, rfl, rfl, rfl⟩
  | 19, _ => exact ⟨_, _, rfl, rfl, rfl⟩
  | 20, _ => exact ⟨_, _, rfl, rfl, rfl⟩
  | 21, _ => exact ⟨_, _, rfl, rfl, rfl⟩
  | 22, _ => exact ⟨_, _, rfl, rfl, rfl⟩
  | 23, _ => exact ⟨_, _, rfl, rfl, rfl⟩
  | k + 24, h => omega
set_option maxHeartbeats 1000000 in
theorem spec_primof (nm : ByteArray) (w : World) : Calls Tryd.prog 7 #[.string nm] w fun e w' => e = .returned (.int .i64 (primIdx nm)) ∧ Below w.heap.size w w' := by
  obtain ⟨r, hr⟩ : ∃ r, primIdx nm = r := ⟨_, rfl⟩
  have HR := Lib.hid hr
  rw [hr]
  clear hr
  go_enter Tryd.func7, Tryd.ntmps7
  go_wp2_with fail
  refine (names_any _).mono ?_
  rintro e w1 ⟨rfl, hb, hbl⟩
  have HB := Lib.hid hb
  have HBL := Lib.hid hbl
  clear hb hbl
  obtain ⟨g, hg⟩ : ∃ g, w.heap.size = g := ⟨_, rfl⟩
  have HG := Lib.hid hg
  rw [hg] at HB ⊢
  clear hg
  go_wp2_with fail
  go_loop [4] (fun vi => ∃ i : Nat, vi = .int .i64 i ∧ i ≤ 24 ∧ Hid (∀ j, j < i → ((primNames.getD j ⟨#[]⟩).toList == nm.toList) = false)) (fun vi => 24 - (intOf vi).toNat)
  case atStart => exact ⟨0, rfl, by omega, Lib.hid (fun j h => by omega)⟩
  case round =>
    obtain ⟨i, rfl, hi, HN⟩ := hrel
    by_cases hp : i < 24
    · have c0 := strs_cell HB.out hp
      obtain ⟨s, hs⟩ : ∃ s, primNames.getD i ⟨#[]⟩ = s := ⟨_, rfl⟩
      have i1 : (0 : Int) ≤ (i : Int) := by omega
      have i2 : (i : Int) < 24 := by omega
      rw [hs] at c0
      cases he : (s.toList == nm.toList) with
      | true =>
        have HX : Hid (r = (i : Int)) := Lib.hid (by rw [← HR.out]; exact primIdx_yes hp (by rw [hs]; exact he) HN.out)
        clear hs
        go_wp2
        go_ret
        exact ⟨by rw [HX.out]; rfl, by first | exact HBL.out | (rw [HG.out] at HBL; exact HBL.out) | (rw [← HG.out]; exact HBL.out)⟩
      | false =>
        have HN2 : Hid (∀ j, j < i + 1 → ((primNames.getD j ⟨#[]⟩).toList == nm.toList) = false) := Lib.hid fun j hj => by
          rcases Nat.lt_or_ge j i with h3 | h3
          · exact HN.out j h3
          · obtain rfl : j = i := by omega
            rw [hs]
            exact he
        clear hs
        go_wp2
        go_round
        case rel => exact ⟨i + 1, by go_num, by omega, HN2⟩
        case measure => simp [intOf]; omega
    · have HX : Hid (r = -1) := Lib.hid (by rw [← HR.out]; exact primIdx_no (fun j hj => HN.out j (by omega)))
      have i2 : ¬ (i : Int) < 24 := by omega
      go_wp2
      go_ret
      exact ⟨by rw [HX.out]; rfl, by first | exact HBL.out | (rw [HG.out] at HBL; exact HBL.out) | (rw [← HG.out]; exact HBL.out)⟩
theorem primof_one (s nm : ByteArray) (t : Int) (q : FuncId) (b : Nat) (w : World) (hc : w.cell? ⟨b, 0, none⟩ = some (.string nm)) (hb : b < w.heap.size) : Calls Tryd.prog 14 #[.agg #[.string s, .int .i64 t, .func (.func q) #[] #[]], .pointer (some ⟨b, 0, none⟩)] w fun e w' => e = .returned (.bool (s.toList == nm.toList)) ∧ Below w.heap.size w w' := by
  obtain ⟨z, hz⟩ : ∃ z, (s.toList == nm.toList) = z := ⟨_, rfl⟩
  rw [hz]
  cases z with
  | true =>
    go_enter Tryd.func14, Tryd.ntmps14
    go_wp2
    go_ret
    exact ⟨by first | rfl | simp, by go_grown⟩
  | false =>
    go_enter Tryd.func14, Tryd.ntmps14
    go_wp2
    go_ret
    exact ⟨by first | rfl | simp, by go_grown⟩
end Go.Proofs.YthelbjlckndklaaDoor
