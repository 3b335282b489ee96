/-
  The law laws.FnExactRecolor answers true at every input. Conditions: none; in particular it holds whatever the package-level tables of the program hold.
-/
import Derived.Test.YtllhcdkbgknjdaaSpecRecolor
import Derived.Test.YtllhcdkbgknjdaaOpenItem
import Derived.Test.YtllhcdkbgknjdaaLawItemOk
import Derived.Test.YtllhcdkbgknjdaaSameItem
namespace Go.Proofs.Ytllhcdkbgknjdaa
open Go.RowKit Go

set_option maxHeartbeats 8000000 in
theorem law_FnExactRecolor (k : Int) (nm : ByteArray) (n : Int) (x : Bool) (r : Nat) (kind : Int) (hk : -9223372036854775808 ≤ k ∧ k ≤ 9223372036854775807) (hn : -2147483648 ≤ n ∧ n ≤ 2147483647) (hr : r < 4294967296) (hm : nm.size ≤ 9223372036854775807) (w : World) (hcs : TabsAny w) :
    Calls Try.prog 4 #[itA k nm n x (r : Int), .int .i64 kind] w fun e w' => e = .returned (.bool true) ∧ Below w.heap.size w w' := by
  by_cases hs : (nm.size : Int) ≤ 1048576
  · have hin : ItIn ⟨k, nm, n, x, r⟩ := ⟨hk.1, hk.2, hn.1, hn.2, hr, show nm.size ≤ _ by omega⟩
    have HZ := Lib.hid (fun W => szitem_fit k nm n x (r : Int) 1048576 (by omega) hs W)
    have HT := Lib.hid (fun W => toitem_any k nm n x (r : Int) W)
    have HS := Lib.hid (fun W => spec_recolor ⟨k, nm, n, x, r⟩ hin kind W)
    have HI := Lib.hid (fun W (hb : Below w.heap.size w W) => impl_recolor ⟨k, nm, n, x, r⟩ hin kind W (hcs.below hb) (show nm.size ≤ _ by omega))
    unfold RecEnd at HS HI
    obtain ⟨b, hb⟩ : ∃ b, recolOk ⟨k, nm, n, x, r⟩ kind = b := ⟨_, rfl⟩
    obtain ⟨j, hj⟩ : ∃ j, recol ⟨k, nm, n, x, r⟩ kind = j := ⟨_, rfl⟩
    rw [hb, hj] at HS HI
    clear hj
    obtain ⟨k2, nm2, n2, x2, r2⟩ := j
    have HQ := Lib.hid (fun W => eqitem_same k2 nm2 n2 x2 (r2 : Int) W)
    have hz : ¬ ((1048576 : Int) - (nm.size : Int) < 0) := by omega
    clear hb hin hcs hk hn hr
    go_enter Try.func4, Try.ntmps4
    go_wp2_with fail
    refine (HZ.out _).mono ?_
    rintro e w1 ⟨rfl, hb1⟩
    have hx1 := box_mono (box_start w _) (hb1.mono (by simp))
    obtain ⟨c0, c1, c2, c3, c4⟩ := it_box hx1
    have HX := Lib.hid hx1
    clear hb1 hx1
    go_wp2_with fail
    refine (HT.out _).mono ?_
    rintro e w2 ⟨rfl, hb2⟩
    have HX2 := Lib.hid (box_mono HX.out hb2)
    clear hb2 c0 c1 c2 c3 c4
    go_wp2_with fail
    refine (HS.out _).mono ?_
    rintro e w3 ⟨rfl, hb3⟩
    have hx3 := box_mono HX2.out hb3
    obtain ⟨c0, c1, c2, c3, c4⟩ := it_box hx3
    have hlt3 : w.heap.size < w3.heap.size := by have := hx3.size; simp at this; omega
    have kb := Blk.new w3 26 (itC k2 nm2 n2 x2 (r2 : Int))
    have hx4 := box_mono hx3 ((Below.refl w3.heap.size w3).alloc (Nat.le_refl _) (.cells (itC k2 nm2 n2 x2 (r2 : Int)) 26))
    have KB := Lib.hid kb
    have HX3 := Lib.hid hx4
    clear hb3 hx3 hx4 kb
    go_wp2_with fail
    refine (HT.out _).mono ?_
    rintro e w4 ⟨rfl, hb4⟩
    have KB4 := Lib.hid (KB.out.below hb4 (by simp))
    have HX4 := Lib.hid (box_mono HX3.out hb4)
    have hs4 : w3.heap.size < w4.heap.size := by have := hb4.size; simp at this; omega
    have HS4 := Lib.hid hs4
    clear hb4 c0 c1 c2 c3 c4 hs4 KB HX3
    go_wp2_with fail
    refine (HI.out _ (box_below HX4.out)).mono ?_
    rintro e w5 ⟨rfl, hb5⟩
    have kb5 := KB4.out.below hb5 HS4.out
    obtain ⟨d0, d1, d2, d3, d4, -⟩ := itC_cells kb5
    have hs5 : w3.heap.size < w5.heap.size := by have := hb5.size; have := HS4.out; omega
    have HX5 := Lib.hid (box_mono HX4.out hb5)
    have HE := Lib.hid ((box_mono HX4.out hb5).alloc (by have := (box_mono HX4.out hb5).size; simpa using this) (.cells (itC k2 nm2 n2 x2 (r2 : Int)) 26))
    clear hb5 kb5 HX4 KB4 hlt3
    go_wp2_with fail
    refine (HQ.out _).mono ?_
    rintro e w6 ⟨rfl, hb6⟩
    have HX6 := Lib.hid (box_below (box_mono HE.out hb6))
    clear hb6
    cases b with
    | true =>
      go_wp2_with fail
      go_ret
      exact ⟨rfl, HX6.out⟩
    | false =>
      go_wp2_with fail
      go_ret
      exact ⟨rfl, HX6.out⟩
  · have HZ := Lib.hid (fun W => szitem_no k nm n x (r : Int) 1048576 (by omega) (by omega) hm W)
    clear hcs hk hn hr hs
    go_enter Try.func4, Try.ntmps4
    go_wp2_with fail
    refine (HZ.out _).mono ?_
    rintro e w1 ⟨rfl, hb1⟩
    have HX := Lib.hid (box_mono (box_start w _) (hb1.mono (by simp)))
    clear hb1
    go_wp2_with fail
    go_ret
    exact ⟨rfl, box_below HX.out⟩
end Go.Proofs.Ytllhcdkbgknjdaa

namespace Go.Proofs.Ytllhcdkbgknjdaa
open Go.ChangeShapes Go.WideShapes Go.ChangeAt Go.ChangeMaps Go.RowKit

set_option maxRecDepth 100000 in
theorem fnExactRecolor_lifted (os : Os) (started : os.Started) (H : Type) (enc : TypeId × Value → H) :
    ReturnsInHanded {} Try.checked os 4 .any (Rows.fnExactRecolorSpec.pre6 enc Try.prog Try.f4 Rows.fnExactRecolorRow.domain false) (Rows.fnExactRecolorSpec.post enc Try.prog Try.f4 false true false false) := by
  refine returnsInHanded_of_change_shaped (C := Try.checked) own started (by kernel_rfl) Try.func4
    (ChangeSpec.witness6 (enc := enc) (C := Try.checked) false ⟨#[], #[.agg #[.int .i64 0, .string ⟨#[]⟩, .int .i32 0, .bool false, .int .u32 0], .int .i64 0], []⟩ 8 (by kernel_rfl) (by kernel_rfl) (by kernel_rfl) (by kernel_rfl)) ?_
  intro W base args ds gs before hval0 hW _ _ hsh _
  have hval : ∀ (j : Nat) t v, Try.f4.params[j]? = some t → args[j]? = some v → Value.okWide Try.prog W .any base t v := hval0
  have hW' := hW
  obtain ⟨p, q, hA0, hV, rfl, hfz, hnd⟩ := hW
  have hA : DataW.TrodAll enc Try.prog W 0 (fun _ => true) true Try.f4.params.toList args.toList ds p := hA0
  rw [Try.params4] at hA hval
  obtain ⟨v0, v1, d0, d1, p0, p1, rfl, rfl, rfl, h0, h1⟩ := trodAll_two hA
  obtain ⟨k, nm, n, x, r, rfl, b1, b2, b3, b4⟩ := law_item (hval 0 33 v0 rfl rfl)
  obtain ⟨x1, rfl, hd1, rfl, wx1⟩ := open_int Try.underlying3 (hval 1 3 v1 rfl rfl) h1
  obtain ⟨rfl, rfl⟩ := trodVars_none hV
  clear hA0 hval0
  refine (law_FnExactRecolor k nm n x r x1 b1 b2 b3 b4 W (tabs_of_shape hsh)).mono fun e W' ⟨he, hb⟩ => ?_
  subst he
  exact ⟨_, rfl, law_post laidOut (by kernel_rfl) hW' rfl hb (tb := 4) (by kernel_rfl) Try.underlying4 ⟨rfl, rfl, rfl⟩⟩

theorem fnExactRecolor_holds : Rows.FnExactRecolorSaid :=
  OpenClaim.holds_of_wide 4 Try.f4 rfl rfl rfl rfl rfl rfl rfl ⟨rfl, rfl, rfl, rfl, rfl⟩ rfl rfl rfl rfl rfl (by kernel_rfl) Try.func4 (by kernel_rfl)
    (of_decide_eq_true (by kernel_rfl)) (by unfold Func.isWrapper; rw [if_neg (of_decide_eq_false (by kernel_rfl))]; exact ⟨rfl, rfl⟩)
    (fun os started H enc _ => fnExactRecolor_lifted os started H enc)
end Go.Proofs.Ytllhcdkbgknjdaa
