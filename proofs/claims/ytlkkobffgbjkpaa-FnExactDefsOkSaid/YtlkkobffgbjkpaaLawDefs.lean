/-
  laws.FnExactDefsOk answers true at every list of definitions.
-/
import Derived.Test.YtlkkobffgbjkpaaDefsI
import Derived.Test.YtlkkobffgbjkpaaDefsS
namespace Go.Proofs.Ytlkkobffgbjkpaa
open Go.RowKit Go

set_option maxRecDepth 100000 in
set_option maxHeartbeats 4000000 in
theorem law_FnExactDefsOk (w : World) (A : Option Addr) (n c : Nat) (hin : DefsIn w A n) : Calls Try.prog 5 #[.slice A n c] w fun e w' => e = .returned (.bool true) ∧ Below w.heap.size w w' := by
  obtain ⟨hn, f, hf⟩ := hin
  have HSZ := Lib.hid (sz_defs A n c hn f w hf)
  have HF := Lib.hid hf
  clear hf hn
  go_enter Try.func5, Try.ntmps5
  go_wp2_with fail
  refine HSZ.out.mono ?_
  rintro e w1 ⟨⟨z, rfl, rfl | ⟨hz0, hn, hs⟩⟩, hb1⟩
  · have B1 := Lib.hid hb1
    clear hb1 HSZ
    go_wp2_with fail
    go_ret
    exact ⟨rfl, B1.out⟩
  · have B1 := Lib.hid hb1
    obtain ⟨ds, rfl, hsm, hr⟩ := rdd_of (c := c) hn f HF.out hs
    have HR := Lib.hid (fun W (h : Below w.heap.size w W) => hr.below h)
    have HSP := Lib.hid (fun u W (h : RdD W u ds) => spec_defs ds hsm u W h)
    have HIM := Lib.hid (fun u W (h : RdD W u ds) => impl_defs ds hsm u W h)
    have HTO := Lib.hid (fun u W (h : RdD W u ds) => toD_any u ds hsm W h)
    have HEQ := Lib.hid (fun a b W (h : RdD W a ds) (h2 : RdD W b ds) => eqD_same a b ds hn W h h2)
    obtain ⟨R, hR⟩ : ∃ R, okDefs ds = R := ⟨_, rfl⟩
    rw [hR] at HSP HIM
    have hz : ¬ z < 0 := by omega
    have hRR : (R != R) = false := by simp
    obtain ⟨v, hv⟩ : ∃ v, v = Value.slice A ds.length c := ⟨_, rfl⟩
    rw [← hv] at HR ⊢
    clear hb1 HSZ HF hs hsm hr hR hz0 hv
    go_wp2_with fail
    refine (HTO.out v w1 (HR.out _ B1.out)).mono ?_
    rintro e w2 ⟨v2, rfl, ho2, hb2⟩
    have B2 := Lib.hid (B1.out.trans (hb2.mono B1.out.size))
    have HR2 := Lib.hid ho2
    clear ho2 hb2 B1
    go_wp2_with fail
    refine (HSP.out v2 w2 HR2.out).mono ?_
    rintro e w3 ⟨rfl, hb3⟩
    have B3 := Lib.hid (B2.out.trans (hb3.mono B2.out.size))
    clear hb3 HR2 B2 HSP
    go_wp2_with fail
    refine (HTO.out v w3 (HR.out _ B3.out)).mono ?_
    rintro e w4 ⟨v4, rfl, ho4, hb4⟩
    have B4 := Lib.hid (B3.out.trans (hb4.mono B3.out.size))
    have HR4 := Lib.hid ho4
    clear ho4 hb4 B3
    go_wp2_with fail
    refine (HIM.out v4 w4 HR4.out).mono ?_
    rintro e w5 ⟨rfl, hb5⟩
    have B5 := Lib.hid (B4.out.trans (hb5.mono B4.out.size))
    have HR5 := Lib.hid (HR4.out.below hb5)
    clear hb5 HR4 B4 HIM
    go_wp2_with fail
    refine (HTO.out v w5 (HR.out _ B5.out)).mono ?_
    rintro e w6 ⟨v6, rfl, ho6, hb6⟩
    have B6 := Lib.hid (B5.out.trans (hb6.mono B5.out.size))
    have HR6 := Lib.hid ho6
    have HR7 := Lib.hid (HR5.out.below hb6)
    clear ho6 hb6 B5 HR5
    go_wp2_with fail
    refine (HEQ.out v4 v6 w6 HR7.out HR6.out).mono ?_
    rintro e w7 ⟨rfl, hb7⟩
    have B7 := Lib.hid (B6.out.trans (hb7.mono B6.out.size))
    clear hb7 B6 HR6 HR7
    go_wp2_with fail
    go_ret
    exact ⟨rfl, B7.out⟩
end Go.Proofs.Ytlkkobffgbjkpaa
