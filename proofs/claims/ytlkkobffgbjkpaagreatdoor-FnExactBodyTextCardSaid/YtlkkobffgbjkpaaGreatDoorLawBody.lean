/-
  laws.FnExactBodyText answers true at every list of definitions and every number.
-/
import Derived.Test.YtlkkobffgbjkpaaGreatDoorBodyS
import Derived.Test.YtlkkobffgbjkpaaGreatDoorBodyI
import Derived.Test.YtlkkobffgbjkpaaGreatDoorDefW
namespace Go.Proofs.YtlkkobffgbjkpaaGreatDoor
open Go.RowKit Go

set_option maxRecDepth 100000 in
set_option maxHeartbeats 8000000 in
theorem law_FnExactBodyText (k : Int) (hk0 : -9223372036854775808 ≤ k) (hk1 : k ≤ 9223372036854775807) (w : World) (A : Option Addr) (n c : Nat) (hin : DefsIn w A n) (hp : Lib.TabIs Tryz.prog w "internal/strconv.uint64pow10" .u64 Lib.pow10Tab) (hg : Signs w) : Calls Tryz.prog 6 #[.slice A n c, .int .i64 k] w fun e w' => e = .returned (.bool true) ∧ Below w.heap.size w w' := by
  obtain ⟨hn, f, hf⟩ := hin
  have HSZ := Lib.hid (sz_defs A n c hn f w hf)
  have HF := Lib.hid hf
  have HPW := Lib.hid (fun W (h : Below w.heap.size w W) => tab_below hp h)
  have HSG := Lib.hid (fun W (h : Below w.heap.size w W) => hg.below h)
  clear hf hn hp hg
  go_enter Tryz.func6, Tryz.ntmps6
  go_wp2_with fail
  refine HSZ.out.mono ?_
  rintro e w2 ⟨⟨z, rfl, rfl | ⟨hz0, hn, hs⟩⟩, hb2⟩
  · have B2 := Lib.hid hb2
    clear hb2 HSZ
    go_wp2_with fail
    go_ret
    exact ⟨rfl, B2.out⟩
  · have B2 := Lib.hid hb2
    obtain ⟨ds, rfl, hsm, hr⟩ := rdd_of (c := c) hn f HF.out hs
    have HR := Lib.hid (fun W (h : Below w.heap.size w W) => hr.below h)
    have HSP := Lib.hid (fun u W (h : RdD W u ds) => spec_body ds hsm k u W h)
    have HIM := Lib.hid (fun u W (h : RdD W u ds) (h2 : Below w.heap.size w W) => impl_body ds hsm k hk0 hk1 u W h (HPW.out W h2) (HSG.out W h2))
    have HTO := Lib.hid (fun u W (h : RdD W u ds) => toD_any u ds hsm W h)
    have HEQ := Lib.hid (fun a b W (h : RdD W a ds) (h2 : RdD W b ds) => eqD_same a b ds hn W h h2)
    obtain ⟨R, hR⟩ : ∃ R, bodyTx ds k = R := ⟨_, rfl⟩
    rw [hR] at HSP HIM
    have hz : ¬ z < 0 := by omega
    have hRR : (!(R.toList == R.toList)) = false := by simp
    have hRT : (R.toList == R.toList) = true := by simp
    obtain ⟨v, hv⟩ : ∃ v, v = Value.slice A ds.length c := ⟨_, rfl⟩
    rw [← hv] at HR ⊢
    clear hb2 HSZ HF hs hsm hr hR hz0 hv hk0 hk1
    go_wp2_with fail
    refine (HTO.out v w2 (HR.out _ B2.out)).mono ?_
    rintro e w4 ⟨v4, rfl, ho4, hb4⟩
    have B4 := Lib.hid (B2.out.trans (hb4.mono B2.out.size))
    have HR4 := Lib.hid ho4
    clear ho4 hb4 B2
    go_wp2_with fail
    refine (HSP.out v4 w4 HR4.out).mono ?_
    rintro e w5 ⟨rfl, hb5⟩
    have B5 := Lib.hid (B4.out.trans (hb5.mono B4.out.size))
    clear hb5 HR4 B4 HSP
    go_wp2_with fail
    refine (HTO.out v w5 (HR.out _ B5.out)).mono ?_
    rintro e w6 ⟨v6, rfl, ho6, hb6⟩
    have B6 := Lib.hid (B5.out.trans (hb6.mono B5.out.size))
    have HR6 := Lib.hid ho6
    clear ho6 hb6 B5
    go_wp2_with fail
    refine (HIM.out v6 w6 HR6.out B6.out).mono ?_
    rintro e w8 ⟨rfl, hb8⟩
    have B8 := Lib.hid (B6.out.trans (hb8.mono B6.out.size))
    have HR8 := Lib.hid (HR6.out.below hb8)
    clear hb8 HR6 B6 HIM
    go_wp2_with fail
    refine (HTO.out v w8 (HR.out _ B8.out)).mono ?_
    rintro e w9 ⟨v9, rfl, ho9, hb9⟩
    have B9 := Lib.hid (B8.out.trans (hb9.mono B8.out.size))
    have HR9 := Lib.hid ho9
    have HR10 := Lib.hid (HR8.out.below hb9)
    clear ho9 hb9 B8 HR8
    go_wp2_with fail
    refine (HEQ.out v6 v9 w9 HR10.out HR9.out).mono ?_
    rintro e w10 ⟨rfl, hb10⟩
    have B10 := Lib.hid (B9.out.trans (hb10.mono B9.out.size))
    clear hb10 B9 HR9 HR10
    go_wp2_with fail
    go_ret
    exact ⟨rfl, B10.out⟩
end Go.Proofs.YtlkkobffgbjkpaaGreatDoor
