/-
  laws.FnExactOpText answers true at every op and every list of definitions.
-/
import Derived.Test.YtdiaiflleiebfaaDoorOpTextS
import Derived.Test.YtdiaiflleiebfaaDoorOpTextI
import Derived.Test.YtdiaiflleiebfaaDoorDefW
namespace Go.Proofs.YtdiaiflleiebfaaDoor
open Go.RowKit Go

set_option maxRecDepth 100000 in
set_option maxHeartbeats 8000000 in
theorem law_FnExactOpText (x y : Int) (hy0 : -2147483648 ≤ y) (hy1 : y ≤ 2147483647) (w : World) (A : Option Addr) (n c : Nat) (hin : DefsIn w A n) (hp : Lib.TabIs Tryd.prog w "internal/strconv.uint64pow10" .u64 Lib.pow10Tab) (hg : Signs w) : Calls Tryd.prog 3 #[.agg #[.int .i64 x, .int .i32 y], .slice A n c] w fun e w' => e = .returned (.bool true) ∧ Below w.heap.size w w' := by
  obtain ⟨W1, hW1⟩ : ∃ W, W = w.alloc (.cells #[.int .i64 x, .int .i32 y] 23) := ⟨_, rfl⟩
  have b1 : Below w.heap.size w W1 := by rw [hW1]; exact below_alloc1 w _
  have k1 : Blk W1 w.heap.size 23 #[.int .i64 x, .int .i32 y] := by rw [hW1]; exact Blk.new w _ _
  obtain ⟨hn, f, hf⟩ := hin
  have hf1 : ∀ i, i < n → ∃ a, A = some a ∧ a.block < W1.heap.size ∧ W1.cell? (a.add (i * 2)) = some (.string (f i).1) ∧ W1.cell? ((a.add (i * 2)).add 1) = some (.slice (f i).2.1 (f i).2.2.1 (f i).2.2.2) ∧ (f i).1.size ≤ 9223372036854775807 ∧ OpsIn W1 (f i).2.1 (f i).2.2.1 (f i).2.2.2 := fun i hi => by
    obtain ⟨a, e1, e2, e3, e4, e5, e6⟩ := hf i hi
    refine ⟨a, e1, by have := b1.size; omega, (b1.cell (by rw [addr_addb]; exact e2)).trans e3, (b1.cell (by rw [addr_addb, addr_addb]; exact e2)).trans e4, e5, e6.1, fun h62 => ?_⟩
    obtain ⟨xs, g1, g2, g3⟩ := e6.2 h62
    exact ⟨xs, g1, g2, g3.below b1⟩
  have HSZ := Lib.hid (sz_defs A n c hn f W1 hf1)
  have HF := Lib.hid hf
  have HW1 := Lib.hid hW1
  have B1 := Lib.hid b1
  have K1 := Lib.hid k1
  have HPW := Lib.hid (fun W (h : Below w.heap.size w W) => tab_below hp h)
  have HSG := Lib.hid (fun W (h : Below w.heap.size w W) => hg.below h)
  clear hf hf1 hn hW1 b1 k1 hp hg
  go_enter Tryd.func3, Tryd.ntmps3
  go_wp2_with fail
  rw [← HW1.out]
  refine HSZ.out.mono ?_
  rintro e w2 ⟨⟨z, rfl, rfl | ⟨hz0, hn, hs⟩⟩, hb2⟩
  · have B2 := Lib.hid (B1.out.trans (hb2.mono B1.out.size))
    clear hb2 HSZ
    go_wp2_with fail
    go_ret
    exact ⟨rfl, B2.out⟩
  · have B2 := Lib.hid (B1.out.trans (hb2.mono B1.out.size))
    have K2 := Lib.hid (K1.out.below hb2 K1.out.lt)
    obtain ⟨ds, rfl, hsm, hr⟩ := rdd_of (c := c) hn f HF.out hs
    have HR := Lib.hid (fun W (h : Below w.heap.size w W) => hr.below h)
    have HSP := Lib.hid (fun u W (h : RdD W u ds) => spec_optext x y ds hy0 hy1 hsm u W h)
    have HIM := Lib.hid (fun u W (h : RdD W u ds) (h2 : Below w.heap.size w W) => impl_optext x y ds hy0 hy1 hsm u W h (HPW.out W h2) (HSG.out W h2))
    have HTO := Lib.hid (fun u W (h : RdD W u ds) => toD_any u ds hsm W h)
    have HEQ := Lib.hid (fun a b W (h : RdD W a ds) (h2 : RdD W b ds) => eqD_same a b ds hn W h h2)
    obtain ⟨R, hR⟩ : ∃ R, opTx (x, y) ds = R := ⟨_, rfl⟩
    rw [hR] at HSP HIM
    have hz : ¬ z < 0 := by omega
    have hRR : (!(R.toList == R.toList)) = false := by simp
    have hRT : (R.toList == R.toList) = true := by simp
    obtain ⟨v, hv⟩ : ∃ v, v = Value.slice A ds.length c := ⟨_, rfl⟩
    rw [← hv] at HR ⊢
    have e0 : w2.cell? ⟨w.heap.size, 0, none⟩ = some (.int .i64 x) := K2.out.cell 0
    have e1 : w2.cell? ⟨w.heap.size, 1, none⟩ = some (.int .i32 y) := K2.out.cell 1
    clear hb2 HSZ HF hs hsm hr hR hz0 hv K1 B1
    go_wp2_with fail
    refine (toslot_any x y w2).mono ?_
    rintro e w3 ⟨rfl, hb3⟩
    have B3 := Lib.hid (B2.out.trans (hb3.mono B2.out.size))
    have K3 := Lib.hid (K2.out.below hb3 K2.out.lt)
    clear hb3 B2 K2 e0 e1
    go_wp2_with fail
    refine (HTO.out v w3 (HR.out _ B3.out)).mono ?_
    rintro e w4 ⟨v4, rfl, ho4, hb4⟩
    have B4 := Lib.hid (B3.out.trans (hb4.mono B3.out.size))
    have K4 := Lib.hid (K3.out.below hb4 K3.out.lt)
    have HR4 := Lib.hid ho4
    clear ho4 hb4 B3 K3
    go_wp2_with fail
    refine (HSP.out v4 w4 HR4.out).mono ?_
    rintro e w5 ⟨rfl, hb5⟩
    have B5 := Lib.hid (B4.out.trans (hb5.mono B4.out.size))
    have K5 := Lib.hid (K4.out.below hb5 K4.out.lt)
    clear hb5 HR4 B4 HSP K4
    go_wp2_with fail
    refine (HTO.out v w5 (HR.out _ B5.out)).mono ?_
    rintro e w6 ⟨v6, rfl, ho6, hb6⟩
    have B6 := Lib.hid (B5.out.trans (hb6.mono B5.out.size))
    have K6 := Lib.hid (K5.out.below hb6 K5.out.lt)
    have HR6 := Lib.hid ho6
    have e0 : w6.cell? ⟨w.heap.size, 0, none⟩ = some (.int .i64 x) := K6.out.cell 0
    have e1 : w6.cell? ⟨w.heap.size, 1, none⟩ = some (.int .i32 y) := K6.out.cell 1
    clear ho6 hb6 B5 K5
    go_wp2_with fail
    refine (toslot_any x y w6).mono ?_
    rintro e w7 ⟨rfl, hb7⟩
    have B7 := Lib.hid (B6.out.trans (hb7.mono B6.out.size))
    have HR7 := Lib.hid (HR6.out.below hb7)
    clear hb7 B6 K6 HR6 e0 e1
    go_wp2_with fail
    refine (HIM.out v6 w7 HR7.out B7.out).mono ?_
    rintro e w8 ⟨rfl, hb8⟩
    have B8 := Lib.hid (B7.out.trans (hb8.mono B7.out.size))
    have HR8 := Lib.hid (HR7.out.below hb8)
    clear hb8 HR7 B7 HIM
    go_wp2_with fail
    refine (HTO.out v w8 (HR.out _ B8.out)).mono ?_
    rintro e w9 ⟨v9, rfl, ho9, hb9⟩
    have B9 := Lib.hid (B8.out.trans (hb9.mono B8.out.size))
    have HR9 := Lib.hid ho9
    have HR10 := Lib.hid (HR8.out.below hb9)
    clear ho9 hb9 B8 HR8
    go_wp2_with fail
    refine (HEQ.out v6 v9 w9 HR10.out HR9.out).mono ?_
    rintro e w10 ⟨rfl, hb10⟩
    have B10 := Lib.hid (B9.out.trans (hb10.mono B9.out.size))
    clear hb10 B9 HR9 HR10
    go_wp2_with fail
    go_ret
    exact ⟨rfl, B10.out⟩
end Go.Proofs.YtdiaiflleiebfaaDoor
