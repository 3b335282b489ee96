/-
  laws.FnExactTreeOf answers true at every body.
-/
import Derived.Test.YtlkkobffgbjkpaaTreesI
import Derived.Test.YtlkkobffgbjkpaaLawShape
namespace Go.Proofs.Ytlkkobffgbjkpaa
open Go.RowKit Go

theorem row_cap {w : World} {base size : Nat} {e : TypeId} {v : Value} {n : Nat} {xs : List Value} (h : w.ownsRow base e size v n xs) : ∃ A cap, v = .slice A n cap ∧ n ≤ cap := by
  rcases h.2 with ⟨rfl, h0⟩ | ⟨g, cap, cur, rfl, -, -, hn, -⟩
  · exact ⟨none, 0, by rw [h0], by omega⟩
  · exact ⟨_, _, rfl, hn⟩
set_option maxRecDepth 100000 in
set_option maxHeartbeats 4000000 in
theorem law_FnExactTreeOf (w : World) (A : Option Addr) (n c : Nat) (hin : OpsIn w A n c) : Calls Try.prog 6 #[.slice A n c] w fun e w' => e = .returned (.bool true) ∧ Below w.heap.size w w' := by
  by_cases hl : n ≤ 1048576
  · obtain ⟨xs, rfl, hrx, hr⟩ := hin.2 (by omega)
    have hrg : RngO xs := fun o ho => (hrx o ho).2
    obtain ⟨v, hv⟩ : ∃ v, v = Value.slice A xs.length c := ⟨_, rfl⟩
    rw [← hv] at hr ⊢
    obtain ⟨ts, hts⟩ := treesOf_any xs
    have htz := hts.size
    clear hin hrx
    have HSZ := Lib.hid (sz_fit v xs hl w hr)
    have HR := Lib.hid (fun W (h : Below w.heap.size w W) => hr.below h)
    have HSP := Lib.hid (fun u W (h : RdS W u xs) => spec_treeof xs hrg ts hts u W h)
    have HIM := Lib.hid (fun A cap W hc (h : RdS W (.slice A xs.length cap) xs) => impl_treeof xs hrg ts hts A cap W hc h)
    have HTO := Lib.hid (fun u W (h : RdS W u xs) => toS_any u xs (by omega) W h)
    have HEQ := Lib.hid (fun a b W (h : RdS W a xs) (h2 : RdS W b xs) => eqS_same a b xs W h h2)
    have HMK := Lib.hid (fun base u W h => markS_any base u xs 1 (by omega) (by omega) W h)
    have HET := Lib.hid (fun a b W (h : RdT W a ts) (h2 : RdT W b ts) => eqT_same ts (by omega) a b W h h2)
    have HMT := Lib.hid (fun base u S W h => markT_any ts 1 (by omega) base u S W h)
    have HHT := Lib.hid (fun u W (h : RdT W u (markL ts 1)) => heldT_any ts 1 (by omega) u W h)
    obtain ⟨N, hN⟩ : ∃ N, xs.length = N := ⟨_, rfl⟩
    have hN2 : N ≤ 1048576 := by omega
    have hl2 : Hid (xs.length ≤ 4611686018427387904) := Lib.hid (by omega)
    obtain ⟨Z, hZ⟩ : ∃ Z, 1 + 2 * sizeL ts = Z := ⟨_, rfl⟩
    have hZ2 : Z ≤ 121 := by omega
    have hZ0 : ¬ (Z : Int) < 0 := by omega
    have hZE : ((Z : Int) != (Z : Int)) = false := by simp
    have hz : ¬ (1048576 - (N : Int)) < 0 := by omega
    have hm : ¬ (1 + 2 * (N : Int)) < 0 := by omega
    rw [hN] at HSZ HMK HIM
    rw [hZ] at HMT HHT
    have HN := Lib.hid hN
    clear hr hrg hl hN hv hts htz hZ
    go_enter Try.func6, Try.ntmps6
    go_wp2_with fail
    refine HSZ.out.mono ?_
    rintro e w1 ⟨rfl, hb1⟩
    have B1 := Lib.hid hb1
    clear hb1 HSZ
    go_wp2_with fail
    refine (HTO.out v w1 (HR.out _ B1.out)).mono ?_
    rintro e w2 ⟨v2, rfl, ho2, hb2⟩
    have B2 := Lib.hid (B1.out.trans (hb2.mono B1.out.size))
    have HR2 := Lib.hid (RdS.of_own ho2 hl2.out)
    clear ho2 hb2 B1
    go_wp2_with fail
    refine (HSP.out v2 w2 HR2.out).mono ?_
    rintro e w3 ⟨u0, S0, rfl, ho3, hb3⟩
    have B3 := Lib.hid (B2.out.trans (hb3.mono B2.out.size))
    have HB0 : Hid (∀ g, S0 g → g < w3.heap.size) := Lib.hid (fun g hg => (ho3.bound g hg).2)
    have O3 := Lib.hid ho3
    clear hb3 HR2 B2 HSP ho3
    go_wp2_with fail
    refine (HTO.out v w3 (HR.out _ B3.out)).mono ?_
    rintro e w4 ⟨v4, rfl, ho4, hb4⟩
    have B4 := Lib.hid (B3.out.trans (hb4.mono B3.out.size))
    obtain ⟨A4, c4, rfl, hc4⟩ := row_cap ho4
    rw [HN.out] at hc4
    have HC4 := Lib.hid hc4
    have R4 := Lib.hid ho4
    have X4 := Lib.hid (RdS.of_own ho4 hl2.out)
    have O4 := Lib.hid (O3.out.stay hb4)
    have Z4 : Hid (w3.heap.size ≤ w4.heap.size ∧ w.heap.size ≤ w3.heap.size) := Lib.hid ⟨hb4.size, B3.out.size⟩
    clear ho4 hb4 B3 O3 hc4
    rw [HN.out] at R4 X4
    rw [HN.out]
    go_wp2_with fail
    refine (HIM.out A4 c4 w4 HC4.out X4.out).mono ?_
    rintro e w5 ⟨u5, S5, rfl, ho5, hb5⟩
    have B5 := Lib.hid (B4.out.trans (hb5.mono B4.out.size))
    have O5 := Lib.hid (O4.out.stay hb5)
    have G5 := Lib.hid ho5
    have HB5 : Hid (∀ g, S5 g → w4.heap.size ≤ g) := Lib.hid (fun g hg => (ho5.bound g hg).1)
    have X5 := Lib.hid (X4.out.below hb5)
    have R5 := Lib.hid (row_same R4.out (fun g hg => hb5.block g (World.ownsRow.lt R4.out g hg).2))
    have HV : Hid (∀ g, (Value.slice A4 N c4).ownBlock = some g → w3.heap.size ≤ g ∧ g < w4.heap.size) := Lib.hid (fun g hg => World.ownsRow.lt R4.out g hg)
    clear ho5 hb5 B4 O4 R4 X4
    go_wp2_with fail
    refine (HET.out u5 u0 w5 G5.out.rd O5.out.rd).mono ?_
    rintro e w6 ⟨rfl, hb6⟩
    have B6 := Lib.hid (B5.out.trans (hb6.mono B5.out.size))
    have O6 := Lib.hid (O5.out.stay hb6)
    have G6 := Lib.hid (G5.out.stay hb6)
    have X6 := Lib.hid (X5.out.below hb6)
    have R6 := Lib.hid (row_same R5.out (fun g hg => hb6.block g (World.ownsRow.lt R5.out g hg).2))
    clear hb6 B5 O5 G5 R5 X5
    go_wp2_with fail
    refine (HTO.out v w6 (HR.out _ B6.out)).mono ?_
    rintro e w7 ⟨v7, rfl, ho7, hb7⟩
    have B7 := Lib.hid (B6.out.trans (hb7.mono B6.out.size))
    have O7 := Lib.hid (O6.out.stay hb7)
    have G7 := Lib.hid (G6.out.stay hb7)
    have X7 := Lib.hid (X6.out.below hb7)
    have R7 := Lib.hid (row_same R6.out (fun g hg => hb7.block g (World.ownsRow.lt R6.out g hg).2))
    have HR7 := Lib.hid (RdS.of_own ho7 hl2.out)
    clear ho7 hb7 B6 O6 G6 R6 X6
    go_wp2_with fail
    refine (HEQ.out _ v7 w7 X7.out HR7.out).mono ?_
    rintro e w8 ⟨rfl, hb8⟩
    have B8 := Lib.hid (B7.out.trans (hb8.mono B7.out.size))
    have O8 := Lib.hid (O7.out.stay hb8)
    have G8 := Lib.hid (G7.out.stay hb8)
    have R8 := Lib.hid (row_same R7.out (fun g hg => hb8.block g (World.ownsRow.lt R7.out g hg).2))
    clear hb8 B7 O7 G7 R7 HR7 X7
    go_wp2_with fail
    refine (HMK.out w3.heap.size _ w8 R8.out).mono ?_
    rintro e w9 ⟨rfl, -, hg9⟩
    have B9 : Hid (Below w.heap.size w w9) := Lib.hid (B8.out.grown hg9 B8.out.size (fun g hg => Nat.le_trans Z4.out.2 (HV.out g hg).1))
    have O9 := Lib.hid (O8.out.kept hg9.size (fun g hg => hg9.block g (O8.out.bound g hg).2 (fun e => by have := (HV.out g e.symm).1; have := HB0.out g hg; omega)))
    have G9 := Lib.hid (G8.out.kept hg9.size (fun g hg => hg9.block g (G8.out.bound g hg).2 (fun e => by have := (HV.out g e.symm).2; have := HB5.out g hg; omega)))
    clear hg9 B8 O8 G8 R8 HMK
    go_wp2_with fail
    refine (HET.out u5 u0 w9 G9.out.rd O9.out.rd).mono ?_
    rintro e w10 ⟨rfl, hb10⟩
    have B10 := Lib.hid (B9.out.trans (hb10.mono B9.out.size))
    have O10 := Lib.hid (O9.out.stay hb10)
    have G10 := Lib.hid (G9.out.stay hb10)
    clear hb10 B9 O9 G9
    go_wp2_with fail
    refine (HMT.out _ u5 S5 w10 G10.out).mono ?_
    rintro e w11 ⟨rfl, ho11, hc11⟩
    have B11 : Hid (Below w.heap.size w w11) := Lib.hid (B10.out.trans (hc11.below (fun g hg => by have := HB5.out g hg; have := Z4.out; omega) B10.out.size))
    have O11 := Lib.hid (O10.out.kept hc11.size (fun g hg => hc11.block g (O10.out.bound g hg).2 (fun e => by have := HB0.out g hg; have := HB5.out g e; have := Z4.out; omega)))
    have G11 := Lib.hid ho11
    clear ho11 hc11 B10 O10 G10 HMT
    go_wp2_with fail
    refine (HHT.out u5 w11 G11.out.rd).mono ?_
    rintro e w12 ⟨rfl, hb12⟩
    have B12 := Lib.hid (B11.out.trans (hb12.mono B11.out.size))
    have O12 := Lib.hid (O11.out.stay hb12)
    have G12 := Lib.hid (G11.out.stay hb12)
    clear hb12 B11 O11 G11
    go_wp2_with fail
    refine (HTO.out v w12 (HR.out _ B12.out)).mono ?_
    rintro e w13 ⟨v13, rfl, ho13, hb13⟩
    have B13 := Lib.hid (B12.out.trans (hb13.mono B12.out.size))
    have O13 := Lib.hid (O12.out.stay hb13)
    have G13 := Lib.hid (G12.out.stay hb13)
    obtain ⟨A13, c13, rfl, hc13⟩ := row_cap ho13
    have R13 := Lib.hid (RdS.of_own ho13 hl2.out)
    rw [HN.out] at hc13 R13
    have HC13 := Lib.hid hc13
    clear ho13 hb13 B12 O12 G12 hc13
    rw [HN.out]
    go_wp2_with fail
    refine (HIM.out A13 c13 w13 HC13.out R13.out).mono ?_
    rintro e w14 ⟨u14, S14, rfl, ho14, hb14⟩
    have B14 := Lib.hid (B13.out.trans (hb14.mono B13.out.size))
    have O14 := Lib.hid (O13.out.stay hb14)
    have G14 := Lib.hid (G13.out.stay hb14)
    have H14 := Lib.hid ho14
    clear ho14 hb14 B13 O13 G13 HIM R13
    go_wp2_with fail
    refine (HET.out u14 u0 w14 H14.out.rd O14.out.rd).mono ?_
    rintro e w15 ⟨rfl, hb15⟩
    have B15 := Lib.hid (B14.out.trans (hb15.mono B14.out.size))
    have G15 := Lib.hid (G14.out.stay hb15)
    clear hb15 B14 O14 G14 H14
    go_wp2_with fail
    refine (HHT.out u5 w15 G15.out.rd).mono ?_
    rintro e w16 ⟨rfl, hb16⟩
    have B16 := Lib.hid (B15.out.trans (hb16.mono B15.out.size))
    clear hb16 B15 G15
    go_wp2_with fail
    go_ret
    exact ⟨rfl, B16.out⟩
  · have HSZ := Lib.hid (sz_not A n c hl hin.1 w)
    clear hin hl
    go_enter Try.func6, Try.ntmps6
    go_wp2_with fail
    refine HSZ.out.mono ?_
    rintro e w1 ⟨rfl, hb1⟩
    have B1 := Lib.hid hb1
    clear hb1 HSZ
    go_wp2_with fail
    go_ret
    exact ⟨rfl, B1.out⟩
end Go.Proofs.Ytlkkobffgbjkpaa
