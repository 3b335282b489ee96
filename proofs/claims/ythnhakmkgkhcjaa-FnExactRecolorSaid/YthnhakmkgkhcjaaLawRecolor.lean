/-
  laws.FnExactRecolor answers true at every item and kind.
-/
import Derived.Test.YthnhakmkgkhcjaaSpecRecolor
import Derived.Test.YthnhakmkgkhcjaaOpenItem
import Derived.Test.YthnhakmkgkhcjaaLawItemOk
namespace Go.Proofs.Ythnhakmkgkhcjaa
open Go.RowKit Go

set_option maxHeartbeats 2000000 in
theorem eqitem_same (k : Int) (nm : ByteArray) (n : Int) (x : Bool) (r : Int) (w : World) : Calls Try.prog 27 #[itA k nm n x r, itA k nm n x r] w fun e w' => e = .returned (.bool true) ∧ Below w.heap.size w w' := by
  have b1 : (k != k) = false := by simp
  have b2 : (!nm.toList == nm.toList) = false := by simp
  have b3 : (n != n) = false := by simp
  have b5 : (r != r) = false := by simp
  cases x with
  | true =>
    go_enter Try.func27, Try.ntmps27
    go_wp2_with fail
    go_ret
    exact ⟨rfl, by go_grown⟩
  | false =>
    go_enter Try.func27, Try.ntmps27
    go_wp2_with fail
    go_ret
    exact ⟨rfl, by go_grown⟩

set_option maxHeartbeats 8000000 in
theorem law_FnExactRecolor (k : Int) (nm : ByteArray) (n : Int) (x : Bool) (r : Nat) (kind : Int) (hk : -9223372036854775808 ≤ k ∧ k ≤ 9223372036854775807) (hn : -2147483648 ≤ n ∧ n ≤ 2147483647) (hr : r < 4294967296) (hm : nm.size ≤ 9223372036854775807) (w : World) (hcs : TabsAny w) :
    Calls Try.prog 7 #[itA k nm n x (r : Int), .int .i64 kind] w fun e w' => e = .returned (.bool true) ∧ Below w.heap.size w w' := by
  by_cases hs : (nm.size : Int) ≤ 1048576
  · have hin : ItIn ⟨k, nm, n, x, r⟩ := ⟨hk.1, hk.2, hn.1, hn.2, hr, show nm.size ≤ _ by omega⟩
    have HZ := Lib.hid (fun W => szitem_fit k nm n x (r : Int) 1048576 (by omega) hs W)
    have HT := Lib.hid (fun W => toitem_any k nm n x (r : Int) W)
    have HS := Lib.hid (fun W => spec_recolor ⟨k, nm, n, x, r⟩ hin kind W)
    have HI := Lib.hid (fun W (hb : Below w.heap.size w W) => impl_recolor ⟨k, nm, n, x, r⟩ hin kind W (hcs.below hb) (show nm.size ≤ _ by omega))
    unfold RecEnd at HS HI
    obtain ⟨b, hb⟩ : ∃ b, recolOk ⟨k, nm, n, x, r⟩ kind = b := ⟨_, rfl⟩
    obtain ⟨j, hj⟩ : ∃ j, recol ⟨k, nm, n, x, r⟩ kind = j := ⟨_, rfl⟩
    rw [hb, hj] at HS HI
    clear hj
    obtain ⟨k2, nm2, n2, x2, r2⟩ := j
    have HQ := Lib.hid (fun W => eqitem_same k2 nm2 n2 x2 (r2 : Int) W)
    have hz : ¬ ((1048576 : Int) - (nm.size : Int) < 0) := by omega
    clear hb hin hcs hk hn hr
    go_enter Try.func7, Try.ntmps7
    go_wp2_with fail
    refine (HZ.out _).mono ?_
    rintro e w1 ⟨rfl, hb1⟩
    have hx1 := box_mono (box_start w _) (hb1.mono (by simp))
    obtain ⟨c0, c1, c2, c3, c4⟩ := it_box hx1
    have HX := Lib.hid hx1
    clear hb1 hx1
    go_wp2_with fail
    refine (HT.out _).mono ?_
    rintro e w2 ⟨rfl, hb2⟩
    have HX2 := Lib.hid (box_mono HX.out hb2)
    clear hb2 c0 c1 c2 c3 c4
    go_wp2_with fail
    refine (HS.out _).mono ?_
    rintro e w3 ⟨rfl, hb3⟩
    have hx3 := box_mono HX2.out hb3
    obtain ⟨c0, c1, c2, c3, c4⟩ := it_box hx3
    have hlt3 : w.heap.size < w3.heap.size := by have := hx3.size; simp at this; omega
    have kb := Blk.new w3 26 (itC k2 nm2 n2 x2 (r2 : Int))
    have hx4 := box_mono hx3 ((Below.refl w3.heap.size w3).alloc (Nat.le_refl _) (.cells (itC k2 nm2 n2 x2 (r2 : Int)) 26))
    have KB := Lib.hid kb
    have HX3 := Lib.hid hx4
    clear hb3 hx3 hx4 kb
    go_wp2_with fail
    refine (HT.out _).mono ?_
    rintro e w4 ⟨rfl, hb4⟩
    have KB4 := Lib.hid (KB.out.below hb4 (by simp))
    have HX4 := Lib.hid (box_mono HX3.out hb4)
    have hs4 : w3.heap.size < w4.heap.size := by have := hb4.size; simp at this; omega
    have HS4 := Lib.hid hs4
    clear hb4 c0 c1 c2 c3 c4 hs4 KB HX3
    go_wp2_with fail
    refine (HI.out _ (box_below HX4.out)).mono ?_
    rintro e w5 ⟨rfl, hb5⟩
    have kb5 := KB4.out.below hb5 HS4.out
    obtain ⟨d0, d1, d2, d3, d4, -⟩ := itC_cells kb5
    have hs5 : w3.heap.size < w5.heap.size := by have := hb5.size; have := HS4.out; omega
    have HX5 := Lib.hid (box_mono HX4.out hb5)
    have HE := Lib.hid ((box_mono HX4.out hb5).alloc (by have := (box_mono HX4.out hb5).size; simpa using this) (.cells (itC k2 nm2 n2 x2 (r2 : Int)) 26))
    clear hb5 kb5 HX4 KB4 hlt3
    go_wp2_with fail
    refine (HQ.out _).mono ?_
    rintro e w6 ⟨rfl, hb6⟩
    have HX6 := Lib.hid (box_below (box_mono HE.out hb6))
    clear hb6
    cases b with
    | true =>
      go_wp2_with fail
      go_ret
      exact ⟨rfl, HX6.out⟩
    | false =>
      go_wp2_with fail
      go_ret
      exact ⟨rfl, HX6.out⟩
  · have HZ := Lib.hid (fun W => szitem_no k nm n x (r : Int) 1048576 (by omega) (by omega) hm W)
    clear hcs hk hn hr hs
    go_enter Try.func7, Try.ntmps7
    go_wp2_with fail
    refine (HZ.out _).mono ?_
    rintro e w1 ⟨rfl, hb1⟩
    have HX := Lib.hid (box_mono (box_start w _) (hb1.mono (by simp)))
    clear hb1
    go_wp2_with fail
    go_ret
    exact ⟨rfl, box_below HX.out⟩
end Go.Proofs.Ythnhakmkgkhcjaa
