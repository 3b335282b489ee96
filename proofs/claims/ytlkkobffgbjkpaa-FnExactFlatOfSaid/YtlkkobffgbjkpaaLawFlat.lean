/-
  laws.FnExactFlatOf answers true at every list of trees.
-/
import Derived.Test.YtlkkobffgbjkpaaFlatO
import Derived.Test.YtlkkobffgbjkpaaFlatP
import Derived.Test.YtlkkobffgbjkpaaTreeTo
import Derived.Test.YtlkkobffgbjkpaaOpenTrees
namespace Go.Proofs.Ytlkkobffgbjkpaa
open Go.RowKit Go

set_option maxRecDepth 100000 in
set_option maxHeartbeats 8000000 in
theorem law_FnExactFlatOf (w : World) (A : Option Addr) (n c : Nat) (hin : TreesIn w (.slice A n c)) : Calls Try.prog 7 #[.slice A n c] w fun e w' => e = .returned (.bool true) ∧ Below w.heap.size w w' := by
  obtain ⟨ts, hr, hx, hrg, hln⟩ := hin
  have HSZ := Lib.hid (szT_all (sizeL ts + 1) ts (by omega) hx hln 1048576 (by omega) (by omega) (.slice A n c) w hr)
  obtain ⟨v, hv⟩ : ∃ v, v = Value.slice A n c := ⟨_, rfl⟩
  rw [← hv] at hr HSZ ⊢
  have HR := Lib.hid (fun W (h : Below w.heap.size w W) => hr.stay h)
  have HRG := Lib.hid hrg
  clear hr hx hrg hln hv
  go_enter Try.func7, Try.ntmps7
  go_wp2_with fail
  refine HSZ.out.mono ?_
  rintro e w1 ⟨⟨z, rfl, rfl | ⟨g1, g2⟩⟩, hb1⟩
  · have B1 := Lib.hid hb1
    clear hb1 HSZ
    go_wp2_with fail
    go_ret
    exact ⟨rfl, B1.out⟩
  · have B1 := Lib.hid hb1
    have hsz : sizeL ts ≤ 1048576 := by omega
    have HSP := Lib.hid (fun u W (h : RdT W u ts) => spec_flatof ts (by omega) (rg_flatL ts HRG.out) u W h)
    have HIM := Lib.hid (fun u W (h : RdT W u ts) => impl_flatof ts (by omega) HRG.out u W h)
    have HTO := Lib.hid (fun u W (h : RdT W u ts) => toT_any ts (by omega) u W h)
    have HET := Lib.hid (fun a b W (h : RdT W a ts) (h2 : RdT W b ts) => eqT_same ts (by omega) a b W h h2)
    have HMT := Lib.hid (fun base u S W h => markT_any ts 1 (by omega) base u S W h)
    obtain ⟨xs, hxs⟩ : ∃ xs, flat8 ts = xs := ⟨_, rfl⟩
    have hn60 := flat8_len ts
    rw [hxs] at HSP HIM hn60
    obtain ⟨N, hN⟩ : ∃ N, xs.length = N := ⟨_, rfl⟩
    have HN := Lib.hid hN
    have HEQ := Lib.hid (fun a b W (h : RdS W a xs) (h2 : RdS W b xs) => eqS_same a b xs W h h2)
    have HMK := Lib.hid (fun base u W h => markS_any base u xs 1 (by omega) (by omega) W h)
    have HHS := Lib.hid (fun u W h => heldS_any u 1 N (by omega) (by omega) W h)
    have HRD := Lib.hid (fun base e u (W : World) (h : W.ownsRow base e 2 u xs.length (slv xs)) => RdS.of_own h (by omega))
    have HRM := Lib.hid (fun base e u (W : World) (h : W.ownsRow base e 2 u N (slv (marksS 1 N))) => RdS.of_own (xs := marksS 1 N) (by rw [marksS_len]; exact h) (by rw [marksS_len]; omega))
    rw [hN] at HMK hn60 HRD
    have hz : ¬ z < 0 := by omega
    obtain ⟨Z, hZ⟩ : ∃ Z, 1 + 2 * sizeL ts = Z := ⟨_, rfl⟩
    rw [hZ] at HMT
    have hZ0 : ¬ (Z : Int) < 0 := by omega
    have hZ1 : Z ≤ 3000000 := by omega
    have hq0 : ¬ (1 + 2 * (N : Int)) < 0 := by omega
    have hqe : ((1 + 2 * (N : Int)) != (1 + 2 * (N : Int))) = false := by simp
    clear hb1 HSZ hsz hxs g2 hN hZ
    go_wp2_with fail
    refine (HTO.out v w1 (HR.out _ B1.out)).mono ?_
    rintro e w2 ⟨v2, S2, rfl, ho2, hb2⟩
    have B2 := Lib.hid (B1.out.trans (hb2.mono B1.out.size))
    have HR2 := Lib.hid ho2.rd
    clear ho2 hb2 B1
    go_wp2_with fail
    refine (HSP.out v2 w2 HR2.out).mono ?_
    rintro e w3 ⟨u0, rfl, ho3, hb3⟩
    rw [HN.out] at ho3
    have B3 := Lib.hid (B2.out.trans (hb3.mono B2.out.size))
    have R3 := Lib.hid ho3
    have HB0 : Hid (∀ g, u0.ownBlock = some g → g < w3.heap.size) := Lib.hid (fun g hg => (World.ownsRow.lt ho3 g hg).2)
    clear hb3 HR2 B2 HSP ho3
    go_wp2_with fail
    refine (HTO.out v w3 (HR.out _ B3.out)).mono ?_
    rintro e w4 ⟨v4, S4, rfl, ho4, hb4⟩
    have B4 := Lib.hid (B3.out.trans (hb4.mono B3.out.size))
    have O4 := Lib.hid ho4
    have R4 := Lib.hid (row_keep R3.out hb4)
    have HB4 : Hid (∀ g, S4 g → w3.heap.size ≤ g ∧ g < w4.heap.size) := Lib.hid (fun g hg => ho4.bound g hg)
    have Z4 : Hid (w3.heap.size ≤ w4.heap.size ∧ w.heap.size ≤ w3.heap.size) := Lib.hid ⟨hb4.size, B3.out.size⟩
    clear ho4 hb4 B3 R3
    go_wp2_with fail
    refine (HIM.out v4 w4 O4.out.rd).mono ?_
    rintro e w5 ⟨u5, rfl, ho5, hb5⟩
    rw [HN.out] at ho5
    have B5 := Lib.hid (B4.out.trans (hb5.mono B4.out.size))
    have O5 := Lib.hid (O4.out.stay hb5)
    have R5 := Lib.hid (row_keep R4.out hb5)
    have G5 := Lib.hid ho5
    have HB5 : Hid (∀ g, u5.ownBlock = some g → w4.heap.size ≤ g) := Lib.hid (fun g hg => (World.ownsRow.lt ho5 g hg).1)
    clear ho5 hb5 B4 O4 R4
    go_wp2_with fail
    refine (HEQ.out u5 u0 w5 (HRD.out _ _ _ _ G5.out) (HRD.out _ _ _ _ R5.out)).mono ?_
    rintro e w6 ⟨rfl, hb6⟩
    have B6 := Lib.hid (B5.out.trans (hb6.mono B5.out.size))
    have O6 := Lib.hid (O5.out.stay hb6)
    have R6 := Lib.hid (row_keep R5.out hb6)
    have G6 := Lib.hid (row_keep G5.out hb6)
    clear hb6 B5 O5 R5 G5
    go_wp2_with fail
    refine (HTO.out v w6 (HR.out _ B6.out)).mono ?_
    rintro e w7 ⟨v7, S7, rfl, ho7, hb7⟩
    have B7 := Lib.hid (B6.out.trans (hb7.mono B6.out.size))
    have O7 := Lib.hid (O6.out.stay hb7)
    have R7 := Lib.hid (row_keep R6.out hb7)
    have G7 := Lib.hid (row_keep G6.out hb7)
    have X7 := Lib.hid ho7.rd
    clear ho7 hb7 B6 O6 R6 G6
    go_wp2_with fail
    refine (HET.out v4 v7 w7 O7.out.rd X7.out).mono ?_
    rintro e w8 ⟨rfl, hb8⟩
    have B8 := Lib.hid (B7.out.trans (hb8.mono B7.out.size))
    have O8 := Lib.hid (O7.out.stay hb8)
    have R8 := Lib.hid (row_keep R7.out hb8)
    have G8 := Lib.hid (row_keep G7.out hb8)
    clear hb8 B7 O7 R7 G7 X7
    go_wp2_with fail
    refine (HMT.out _ v4 S4 w8 O8.out).mono ?_
    rintro e w9 ⟨rfl, -, hc9⟩
    have B9 : Hid (Below w.heap.size w w9) := Lib.hid (B8.out.trans (hc9.below (fun g hg => by have := (HB4.out g hg).1; have := Z4.out; omega) B8.out.size))
    have R9 := Lib.hid (row_same R8.out (fun g hg => hc9.block g (World.ownsRow.lt R8.out g hg).2 (fun e => by have := HB0.out g hg; have := (HB4.out g e).1; omega)))
    have G9 := Lib.hid (row_same G8.out (fun g hg => hc9.block g (World.ownsRow.lt G8.out g hg).2 (fun e => by have := HB5.out g hg; have := (HB4.out g e).2; omega)))
    clear hc9 B8 O8 R8 G8 HMT
    go_wp2_with fail
    refine (HEQ.out u5 u0 w9 (HRD.out _ _ _ _ G9.out) (HRD.out _ _ _ _ R9.out)).mono ?_
    rintro e w10 ⟨rfl, hb10⟩
    have B10 := Lib.hid (B9.out.trans (hb10.mono B9.out.size))
    have R10 := Lib.hid (row_keep R9.out hb10)
    have G10 := Lib.hid (row_keep G9.out hb10)
    clear hb10 B9 R9 G9
    go_wp2_with fail
    refine (HMK.out _ u5 w10 G10.out).mono ?_
    rintro e w11 ⟨rfl, ho11, hg11⟩
    have B11 : Hid (Below w.heap.size w w11) := Lib.hid (B10.out.grown hg11 B10.out.size (fun g hg => by have := HB5.out g hg; have := Z4.out; omega))
    have R11 := Lib.hid (row_same R10.out (fun g hg => hg11.block g (World.ownsRow.lt R10.out g hg).2 (fun e => by have := HB0.out g hg; have := HB5.out g e.symm; have := Z4.out; omega)))
    have G11 := Lib.hid ho11
    clear ho11 hg11 B10 R10 G10 HMK
    go_wp2_with fail
    refine (HHS.out u5 w11 (HRM.out _ _ _ _ G11.out)).mono ?_
    rintro e w12 ⟨rfl, rfl⟩
    go_wp2_with fail
    refine (HTO.out v w11 (HR.out _ B11.out)).mono ?_
    rintro e w13 ⟨v13, S13, rfl, ho13, hb13⟩
    have B13 := Lib.hid (B11.out.trans (hb13.mono B11.out.size))
    have R13 := Lib.hid (row_keep R11.out hb13)
    have G13 := Lib.hid (row_keep G11.out hb13)
    have X13 := Lib.hid ho13.rd
    clear ho13 hb13 B11 R11 G11
    go_wp2_with fail
    refine (HIM.out v13 w13 X13.out).mono ?_
    rintro e w14 ⟨u14, rfl, ho14, hb14⟩
    rw [HN.out] at ho14
    have B14 := Lib.hid (B13.out.trans (hb14.mono B13.out.size))
    have R14 := Lib.hid (row_keep R13.out hb14)
    have G14 := Lib.hid (row_keep G13.out hb14)
    have H14 := Lib.hid ho14
    clear ho14 hb14 B13 R13 G13 X13 HIM
    go_wp2_with fail
    refine (HEQ.out u14 u0 w14 (HRD.out _ _ _ _ H14.out) (HRD.out _ _ _ _ R14.out)).mono ?_
    rintro e w15 ⟨rfl, hb15⟩
    have B15 := Lib.hid (B14.out.trans (hb15.mono B14.out.size))
    have G15 := Lib.hid (row_keep G14.out hb15)
    clear hb15 B14 R14 G14 H14
    go_wp2_with fail
    refine (HHS.out u5 w15 (HRM.out _ _ _ _ G15.out)).mono ?_
    rintro e w16 ⟨rfl, rfl⟩
    go_wp2_with fail
    go_ret
    exact ⟨rfl, B15.out⟩
end Go.Proofs.Ytlkkobffgbjkpaa
