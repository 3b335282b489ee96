/-
  laws.FnExactPrimName answers true at every number.
-/
import Derived.Test.YthelbjlckndklaaDoorPrimName
namespace Go.Proofs.YthelbjlckndklaaDoor
open Go.RowKit Go

theorem law_FnExactPrimName (k : Int) (h0 : -9223372036854775808 ≤ k) (h1 : k ≤ 9223372036854775807) (w : World) : Calls Tryd.prog 3 #[.int .i64 k] w fun e w' => e = .returned (.bool true) ∧ Below w.heap.size w w' := by
  have HS := Lib.hid (fun W => spec_primname k h0 h1 W)
  have HI := Lib.hid (fun W => impl_primname k W)
  obtain ⟨nm, hnm⟩ : ∃ nm, primN k = nm := ⟨_, rfl⟩
  rw [hnm] at HS HI
  have b2 : (!nm.toList == nm.toList) = false := by simp
  have b3 : (nm.toList != nm.toList) = false := by simp
  clear hnm
  go_enter Tryd.func3, Tryd.ntmps3
  go_wp2_with fail
  refine (HS.out _).mono ?_
  rintro e w1 ⟨rfl, hb1⟩
  have HB1 := Lib.hid hb1
  clear hb1
  go_wp2_with fail
  refine (HI.out _).mono ?_
  rintro e w2 ⟨rfl, hb2⟩
  have HB2 := Lib.hid (HB1.out.trans (hb2.mono HB1.out.size))
  clear hb2 HB1
  go_wp2_with fail
  go_ret
  exact ⟨rfl, HB2.out⟩
end Go.Proofs.YthelbjlckndklaaDoor
