/-
  laws.FnExactListing answers true at every code.
-/
import Derived.Test.YthihfgjolioabaaDoorListI
import Derived.Test.YthihfgjolioabaaDoorListS
import Derived.Test.YthihfgjolioabaaDoorLawCodeOk
namespace Go.Proofs.YthihfgjolioabaaDoor
open Go.RowKit Go

set_option maxRecDepth 100000 in
set_option maxHeartbeats 4000000 in
theorem law_FnExactListing (w : World) (A : Option Addr) (n c : Nat) (hin : InsIn w A n c) (hp : Lib.TabIs Tryd.prog w "internal/strconv.uint64pow10" .u64 Lib.pow10Tab) (hg : InsW w) : Calls Tryd.prog 4 #[.slice A n c] w fun e w' => e = .returned (.bool true) ∧ Below w.heap.size w w' := by
  by_cases hl : n ≤ 1048576
  · obtain ⟨xs, rfl, hrx, hr⟩ := hin.2 (by omega)
    have hrg : RngC xs := hrx
    obtain ⟨v, hv⟩ : ∃ v, v = Value.slice A xs.length c := ⟨_, rfl⟩
    rw [← hv] at hr ⊢
    clear hin hrx
    have HPW := Lib.hid (fun W (h : Below w.heap.size w W) => tab_below hp h)
    have HSG := Lib.hid (fun W (h : Below w.heap.size w W) => hg.below h)
    clear hp hg
    have HSZ := Lib.hid (szI_fit v xs hl w hr)
    have HR := Lib.hid (fun W (h : Below w.heap.size w W) => hr.below h)
    have HSP := Lib.hid (fun u W (h : RdIc W u xs) => spec_listing xs hrg u W h)
    have HIM := Lib.hid (fun u W (h : RdIc W u xs) (h2 : Below w.heap.size w W) => impl_listing xs hrg u W h (HPW.out W h2) (HSG.out W h2))
    have HTO := Lib.hid (fun u W (h : RdIc W u xs) => toIc_any u xs (by omega) W h)
    have HEQ := Lib.hid (fun a b W (h : RdIc W a xs) (h2 : RdIc W b xs) => eqIc_same a b xs W h h2)
    obtain ⟨R, hR⟩ : ∃ R, listTx xs = R := ⟨_, rfl⟩
    rw [hR] at HSP HIM
    obtain ⟨N, hN⟩ : ∃ N, xs.length = N := ⟨_, rfl⟩
    rw [hN] at HSZ
    have hN2 : N ≤ 1048576 := by omega
    have hz : ¬ (1048576 - (N : Int)) < 0 := by omega
    have hl2 : Hid (xs.length ≤ 4611686018427387904) := Lib.hid (by omega)
    have hRR : (!(R.toList == R.toList)) = false := by simp
    have hRT : (R.toList == R.toList) = true := by simp
    clear hr hrg hl hR hN hv
    go_enter Tryd.func4, Tryd.ntmps4
    go_wp2_with fail
    refine HSZ.out.mono ?_
    rintro e w1 ⟨rfl, hb1⟩
    have B1 := Lib.hid hb1
    clear hb1 HSZ
    go_wp2_with fail
    refine (HTO.out v w1 (HR.out _ B1.out)).mono ?_
    rintro e w2 ⟨v2, rfl, ho2, hb2⟩
    have B2 := Lib.hid (B1.out.trans (hb2.mono B1.out.size))
    have HR2 := Lib.hid (RdIc.of_own ho2 hl2.out)
    clear ho2 hb2 B1
    go_wp2_with fail
    refine (HSP.out v2 w2 HR2.out).mono ?_
    rintro e w3 ⟨rfl, hb3⟩
    have B3 := Lib.hid (B2.out.trans (hb3.mono B2.out.size))
    clear hb3 HR2 B2 HSP
    go_wp2_with fail
    refine (HTO.out v w3 (HR.out _ B3.out)).mono ?_
    rintro e w4 ⟨v4, rfl, ho4, hb4⟩
    have B4 := Lib.hid (B3.out.trans (hb4.mono B3.out.size))
    have HR4 := Lib.hid (RdIc.of_own ho4 hl2.out)
    clear ho4 hb4 B3
    go_wp2_with fail
    refine (HIM.out v4 w4 HR4.out B4.out).mono ?_
    rintro e w5 ⟨rfl, hb5⟩
    have B5 := Lib.hid (B4.out.trans (hb5.mono B4.out.size))
    have HR5 := Lib.hid (HR4.out.below hb5)
    clear hb5 HR4 B4 HIM
    go_wp2_with fail
    refine (HTO.out v w5 (HR.out _ B5.out)).mono ?_
    rintro e w6 ⟨v6, rfl, ho6, hb6⟩
    have B6 := Lib.hid (B5.out.trans (hb6.mono B5.out.size))
    have HR6 := Lib.hid (RdIc.of_own ho6 hl2.out)
    have HR7 := Lib.hid (HR5.out.below hb6)
    clear ho6 hb6 B5 HR5
    go_wp2_with fail
    refine (HEQ.out v4 v6 w6 HR7.out HR6.out).mono ?_
    rintro e w7 ⟨rfl, hb7⟩
    have B7 := Lib.hid (B6.out.trans (hb7.mono B6.out.size))
    clear hb7 B6 HR6 HR7
    go_wp2_with fail
    go_ret
    exact ⟨rfl, B7.out⟩
  · have HSZ := Lib.hid (szI_not A n c hl hin.1 w)
    clear hin hl
    go_enter Tryd.func4, Tryd.ntmps4
    go_wp2_with fail
    refine HSZ.out.mono ?_
    rintro e w1 ⟨rfl, hb1⟩
    have B1 := Lib.hid hb1
    clear hb1 HSZ
    go_wp2_with fail
    go_ret
    exact ⟨rfl, B1.out⟩
end Go.Proofs.YthihfgjolioabaaDoor
