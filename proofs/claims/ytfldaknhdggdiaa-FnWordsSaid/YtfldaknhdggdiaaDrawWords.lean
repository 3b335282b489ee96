/-
  What laws.FnWords draws: two short texts.
-/
import Derived.Test.YtfldaknhdggdiaaDrawStrs
namespace Go.Proofs.Ytfldaknhdggdiaa
open Go.RowKit

set_option maxHeartbeats 2000000 in
theorem drawwords_any (A : Option Addr) (len cap : Nat) (w : World) (hcode : CodeOk w w.heap.size A len) : Calls Try.prog 7 #[.slice A len cap] w fun e w' => ∃ s : ByteArray, e = .returned (.string s) ∧ s.size ≤ 100 ∧ Below w.heap.size w w' := by
  have HC := Lib.hid (new_any A len cap w hcode)
  clear hcode
  go_enter Try.func7, Try.ntmps7
  go_wp2_with fail
  refine HC.out.mono ?_
  rintro e w1 ⟨g, rfl, hg, hc1, hb1⟩
  have HB1 := Lib.hid hb1
  clear hb1
  go_wp2_with fail
  refine (below_any g 7 (by omega) (by omega) _ hc1).mono ?_
  rintro e w2 ⟨n, rfl, ⟨hn0, hn1⟩, hc2, hg2⟩
  have hn2 : n ≤ 6 := by simpa using hn1
  have HB2 := Lib.hid (HB1.out.trans (below_of_only hg2 HB1.out.size hg))
  have HC2 := Lib.hid hc2
  clear hg2 hc2 hn1
  go_wp2_with fail
  go_loopw [4, 6] (fun vs vi wr => ∃ (i : Nat) (s : ByteArray), vi = .int .i64 i ∧ vs = .string s ∧ (i : Int) ≤ n ∧ s.size ≤ 2 * i ∧ Hid (CurAt wr g ∧ Below w.heap.size w wr)) (fun _ vi _ => n.toNat - (intOf vi).toNat)
  case atStart => exact ⟨0, ⟨#[]⟩, rfl, rfl, by omega, by decide, HC2.out, HB2.out⟩
  case round =>
    obtain ⟨i, s, rfl, rfl, hi, hsz, HW⟩ := hrel
    by_cases hp : (i : Int) < n
    · have hglt : g < wr.heap.size := by obtain ⟨⟨_, _, _, _, _, hb, _⟩, _⟩ := HW.out; exact hb.lt
      have PK := pick_any g wr.heap.size [⟨#[97]⟩, ⟨#[32]⟩, ⟨#[98, 99]⟩, ⟨#[9]⟩, ⟨#[]⟩, ⟨#[10]⟩] _ (HW.out.1.grown (World.grownBy_alloc wr _ none) (fun _ h => by cases h)) (strs_new wr 9 [⟨#[97]⟩, ⟨#[32]⟩, ⟨#[98, 99]⟩, ⟨#[9]⟩, ⟨#[]⟩, ⟨#[10]⟩]) (by omega) (by simp) (by decide) (by decide)
      have HPK := Lib.hid PK
      clear PK
      go_wp2_with fail
      refine HPK.out.mono ?_
      rintro e w4 ⟨x, rfl, hx, hc4, hg4⟩
      have hx2 : x.size ≤ 2 := by
        simp only [List.mem_cons, List.not_mem_nil, or_false] at hx
        rcases hx with rfl | rfl | rfl | rfl | rfl | rfl <;> decide
      have H4 := Lib.hid (show CurAt w4 g ∧ Below w.heap.size w w4 from ⟨hc4, HW.out.2.trans (below_of_only (only_trans (only_alloc (World.grownBy.refl wr _) _) hg4) HW.out.2.size hg)⟩)
      clear hx hc4 hg4
      go_wp2_with fail
      go_roundw
      case rel => exact ⟨i + 1, s ++ x, by go_num, rfl, by omega, by rw [ByteArray.size_append]; omega, H4.out⟩
      case measure => simp [intOf]; omega
    · go_wp2_with fail
      go_ret
      exact ⟨s, rfl, by omega, HW.out.2⟩

set_option maxHeartbeats 2000000 in
theorem drawlines_any (A : Option Addr) (len cap : Nat) (w : World) (hcode : CodeOk w w.heap.size A len) : Calls Try.prog 9 #[.slice A len cap] w fun e w' => ∃ s : ByteArray, e = .returned (.string s) ∧ s.size ≤ 100 ∧ Below w.heap.size w w' := by
  have HC := Lib.hid (new_any A len cap w hcode)
  clear hcode
  go_enter Try.func9, Try.ntmps9
  go_wp2_with fail
  refine HC.out.mono ?_
  rintro e w1 ⟨g, rfl, hg, hc1, hb1⟩
  have HB1 := Lib.hid hb1
  clear hb1
  go_wp2_with fail
  refine (below_any g 6 (by omega) (by omega) _ hc1).mono ?_
  rintro e w2 ⟨n, rfl, ⟨hn0, hn1⟩, hc2, hg2⟩
  have hn2 : n ≤ 5 := by simpa using hn1
  have HB2 := Lib.hid (HB1.out.trans (below_of_only hg2 HB1.out.size hg))
  have HC2 := Lib.hid hc2
  clear hg2 hc2 hn1
  go_wp2_with fail
  go_loopw [4, 6] (fun vs vi wr => ∃ (i : Nat) (s : ByteArray), vi = .int .i64 i ∧ vs = .string s ∧ (i : Int) ≤ n ∧ s.size ≤ 2 * i ∧ Hid (CurAt wr g ∧ Below w.heap.size w wr)) (fun _ vi _ => n.toNat - (intOf vi).toNat)
  case atStart => exact ⟨0, ⟨#[]⟩, rfl, rfl, by omega, by decide, HC2.out, HB2.out⟩
  case round =>
    obtain ⟨i, s, rfl, rfl, hi, hsz, HW⟩ := hrel
    by_cases hp : (i : Int) < n
    · have hglt : g < wr.heap.size := by obtain ⟨⟨_, _, _, _, _, hb, _⟩, _⟩ := HW.out; exact hb.lt
      have PK := pick_any g wr.heap.size [⟨#[97]⟩, ⟨#[10]⟩, ⟨#[98, 99]⟩, ⟨#[10]⟩, ⟨#[]⟩] _ (HW.out.1.grown (World.grownBy_alloc wr _ none) (fun _ h => by cases h)) (strs_new wr 9 [⟨#[97]⟩, ⟨#[10]⟩, ⟨#[98, 99]⟩, ⟨#[10]⟩, ⟨#[]⟩]) (by omega) (by simp) (by decide) (by decide)
      have HPK := Lib.hid PK
      clear PK
      go_wp2_with fail
      refine HPK.out.mono ?_
      rintro e w4 ⟨x, rfl, hx, hc4, hg4⟩
      have hx2 : x.size ≤ 2 := by
        simp only [List.mem_cons, List.not_mem_nil, or_false] at hx
        rcases hx with rfl | rfl | rfl | rfl | rfl <;> decide
      have H4 := Lib.hid (show CurAt w4 g ∧ Below w.heap.size w w4 from ⟨hc4, HW.out.2.trans (below_of_only (only_trans (only_alloc (World.grownBy.refl wr _) _) hg4) HW.out.2.size hg)⟩)
      clear hx hc4 hg4
      go_wp2_with fail
      go_roundw
      case rel => exact ⟨i + 1, s ++ x, by go_num, rfl, by omega, by rw [ByteArray.size_append]; omega, H4.out⟩
      case measure => simp [intOf]; omega
    · go_wp2_with fail
      go_ret
      exact ⟨s, rfl, by omega, HW.out.2⟩
end Go.Proofs.Ytfldaknhdggdiaa
