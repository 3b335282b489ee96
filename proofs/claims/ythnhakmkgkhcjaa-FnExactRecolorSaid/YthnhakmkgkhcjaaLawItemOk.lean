/-
  laws.FnExactItemOk answers true at every item.
-/
import Derived.Test.YthnhakmkgkhcjaaSpecCells
import Derived.Test.YthnhakmkgkhcjaaToItem
namespace Go.Proofs.Ythnhakmkgkhcjaa
open Go.RowKit Go

/-- A copy of an item, where its box stands. -/
theorem box_mono {w w1 w2 : World} {o : Obj} (h1 : Below (w.heap.size + 1) (w.alloc o) w1) (h2 : Below w1.heap.size w1 w2) : Below (w.heap.size + 1) (w.alloc o) w2 :=
  h1.trans (h2.mono (by have := h1.size; simpa using this))
theorem box_start (w : World) (o : Obj) : Below (w.heap.size + 1) (w.alloc o) (w.alloc o) := Below.refl _ _
theorem box_below {w w1 : World} {o : Obj} (h : Below (w.heap.size + 1) (w.alloc o) w1) : Below w.heap.size w w1 := ((Below.refl _ _).alloc (Nat.le_refl _) _).trans (h.mono (by omega))

set_option maxHeartbeats 4000000 in
theorem law_FnExactItemOk (k : Int) (nm : ByteArray) (n : Int) (x : Bool) (r : Nat) (hk : -9223372036854775808 ≤ k ∧ k ≤ 9223372036854775807) (hn : -2147483648 ≤ n ∧ n ≤ 2147483647) (hr : r < 4294967296) (hm : nm.size ≤ 9223372036854775807) (w : World) (hcs : TabsAny w) :
    Calls Try.prog 5 #[itA k nm n x (r : Int)] w fun e w' => e = .returned (.bool true) ∧ Below w.heap.size w w' := by
  by_cases hs : (nm.size : Int) ≤ 1048576
  · have hin : ItIn ⟨k, nm, n, x, r⟩ := ⟨hk.1, hk.2, hn.1, hn.2, hr, show nm.size ≤ _ by omega⟩
    have HZ := Lib.hid (fun W => szitem_fit k nm n x (r : Int) 1048576 (by omega) hs W)
    have HT := Lib.hid (fun W => toitem_any k nm n x (r : Int) W)
    have HS := Lib.hid (fun W => spec_itemok ⟨k, nm, n, x, r⟩ hin W)
    have HI := Lib.hid (fun W (hb : Below w.heap.size w W) => impl_itemok ⟨k, nm, n, x, r⟩ hin W (hcs.below hb))
    obtain ⟨b, hb⟩ : ∃ b, decide (cellsOf ⟨k, nm, n, x, r⟩ ≠ []) = b := ⟨_, rfl⟩
    rw [hb] at HS HI
    have hz : ¬ ((1048576 : Int) - (nm.size : Int) < 0) := by omega
    clear hb hin hcs hk hn hr
    go_enter Try.func5, Try.ntmps5
    go_wp2_with fail
    refine (HZ.out _).mono ?_
    rintro e w1 ⟨rfl, hb1⟩
    have hx1 := box_mono (box_start w _) (hb1.mono (by simp))
    obtain ⟨c0, c1, c2, c3, c4⟩ := it_box hx1
    have HX := Lib.hid hx1
    clear hb1 hx1
    go_wp2_with fail
    refine (HT.out _).mono ?_
    rintro e w2 ⟨rfl, hb2⟩
    have HX2 := Lib.hid (box_mono HX.out hb2)
    clear hb2 c0 c1 c2 c3 c4
    go_wp2_with fail
    refine (HS.out _).mono ?_
    rintro e w3 ⟨rfl, hb3⟩
    have hx3 := box_mono HX2.out hb3
    obtain ⟨c0, c1, c2, c3, c4⟩ := it_box hx3
    have HX3 := Lib.hid hx3
    clear hb3 hx3
    go_wp2_with fail
    refine (HT.out _).mono ?_
    rintro e w4 ⟨rfl, hb4⟩
    have HX4 := Lib.hid (box_mono HX3.out hb4)
    clear hb4 c0 c1 c2 c3 c4
    go_wp2_with fail
    refine (HI.out _ (box_below HX4.out)).mono ?_
    rintro e w5 ⟨rfl, hb5⟩
    have HX5 := Lib.hid (box_mono HX4.out hb5)
    clear hb5
    cases b with
    | true =>
      go_wp2_with fail
      go_ret
      exact ⟨rfl, box_below HX5.out⟩
    | false =>
      go_wp2_with fail
      go_ret
      exact ⟨rfl, box_below HX5.out⟩
  · have HZ := Lib.hid (fun W => szitem_no k nm n x (r : Int) 1048576 (by omega) (by omega) hm W)
    clear hcs hk hn hr hs
    go_enter Try.func5, Try.ntmps5
    go_wp2_with fail
    refine (HZ.out _).mono ?_
    rintro e w1 ⟨rfl, hb1⟩
    have HX := Lib.hid (box_mono (box_start w _) (hb1.mono (by simp)))
    clear hb1
    go_wp2_with fail
    go_ret
    exact ⟨rfl, box_below HX.out⟩
end Go.Proofs.Ythnhakmkgkhcjaa
