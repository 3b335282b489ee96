/-
  laws.FnExactPack answers true at every text.
-/
import Derived.Test.YtaagaimafhadeaaDoorPack
import Derived.Test.YtaagaimafhadeaaDoorLaw
namespace Go.Proofs.YtaagaimafhadeaaDoor
open Go.RowKit Go

theorem held_marksN (k n : Nat) : (if marksN k n = (List.range (marksN k n).length).map (k + ·) then (k : Int) + (marksN k n).length else -1) = (k : Int) + n := by
  rw [if_pos (by rw [marksN_len]; rfl), marksN_len]

set_option maxHeartbeats 2000000 in
theorem law_FnExactPack (s : ByteArray) (w : World) (hcs : Codes w) : Calls Tryd.prog 6 #[.string s] w fun e w' => e = .returned (.bool true) ∧ Below w.heap.size w w' := by
  by_cases hs : s.size ≤ 1048576
  · have i1 : (s.size : Int) ≤ 1048576 := by omega
    obtain ⟨ls, hls⟩ : ∃ ls, packs s.data.toList = ls := ⟨_, rfl⟩
    have hlen := (packs_len s.data.toList).2
    rw [hls] at hlen
    have HI : ∀ W, Below w.heap.size w W → Hid (Calls Tryd.prog 12 #[.string s] W (NewN W ls)) := fun W hb => Lib.hid (by rw [← hls]; exact impl_pack s (by omega) W (hcs.below hb))
    have HS : Hid (Calls Tryd.prog 24 #[.string s] w (NewN w ls)) := Lib.hid (by rw [← hls]; exact spec_pack s (by omega) w)
    have m0 := held_marksN 1 ls.length
    have HM := Lib.hid m0
    clear hls m0 hcs
    go_enter Tryd.func6, Tryd.ntmps6
    go_wp2_with fail
    refine HS.out.mono ?_
    rintro e W1 ⟨v0, rfl, ho0, hb1⟩
    have R0 := Lib.hid (RdN.of_own ho0 (by omega))
    clear ho0 HS
    go_wp2_with fail
    refine (HI W1 hb1).out.mono ?_
    rintro e W2 ⟨v1, rfl, ho1, hb2⟩
    have R1 := RdN.of_own ho1 (by omega)
    have hE := eqn_any v1 v0 ls ls W2 R1 (R0.out.below hb2)
    rw [decide_eq_true rfl] at hE
    have HE := Lib.hid hE
    have HO1 := Lib.hid ho1
    have B2 := Lib.hid hb2
    have B02 : Hid (Below w.heap.size w W2) := Lib.hid (hb1.trans (hb2.mono hb1.size))
    have S1 := hb1.size
    clear hE R1 ho1 hb2 hb1
    go_wp2_with fail
    refine HE.out.mono ?_
    rintro e W3 ⟨rfl, d, hW3⟩
    have ho3 : W3.ownsRow W1.heap.size 31 1 v1 ls.length (ls.map u32v) := by rw [hW3]; exact HO1.out
    have B13 : Below W1.heap.size W1 W3 := by rw [hW3]; exact below_drewN B2.out d
    have B03 : Below w.heap.size w W3 := by rw [hW3]; exact below_drewN B02.out d
    have HK := Lib.hid (markn_any W1.heap.size v1 ls 1 (by omega) (by omega) W3 ho3)
    have OL := Lib.hid (own_lt ho3)
    have HB13 := Lib.hid B13
    have HB03 := Lib.hid B03
    clear ho3 B13 B03 hW3 HE HO1
    go_wp2_with fail
    refine HK.out.mono ?_
    rintro e W4 ⟨rfl, ho4, hg4⟩
    have B14 : Below W1.heap.size W1 W4 := HB13.out.grown hg4 HB13.out.size OL.out
    have B04 : Below w.heap.size w W4 := HB03.out.grown hg4 HB03.out.size (fun k hk => by have := OL.out k hk; omega)
    have R4 : RdN W4 v1 (marksN 1 ls.length) := RdN.of_own (base := W1.heap.size) (e := 31) (by rw [marksN_len]; exact ho4) (by rw [marksN_len]; omega)
    have hH := heldn_any v1 (marksN 1 ls.length) 1 (by omega) (by rw [marksN_len]; omega) W4 R4
    rw [HM.out] at hH
    have HH := Lib.hid hH
    have HR4 := Lib.hid R4
    have HB14 := Lib.hid B14
    have HB04 := Lib.hid B04
    clear hH R4 B14 B04 hg4 ho4 HK
    go_wp2_with fail
    refine HH.out.mono ?_
    rintro e W5 ⟨rfl, rfl⟩
    go_wp2_with fail
    refine (HI W4 HB04.out).out.mono ?_
    rintro e W6 ⟨v2, rfl, ho6, hb6⟩
    have B16 := HB14.out.trans (hb6.mono HB14.out.size)
    have HB06 := Lib.hid (HB04.out.trans (hb6.mono HB04.out.size))
    have HR6 := Lib.hid (HR4.out.below hb6)
    have hE := eqn_any v2 v0 ls ls W6 (RdN.of_own ho6 (by omega)) (R0.out.below B16)
    rw [decide_eq_true rfl] at hE
    have HE := Lib.hid hE
    clear hE ho6 hb6 B16
    go_wp2_with fail
    refine HE.out.mono ?_
    rintro e W7 ⟨rfl, d7, hW7⟩
    have R7 : RdN W7 v1 (marksN 1 ls.length) := by rw [hW7]; exact HR6.out
    have HB07 : Hid (Below w.heap.size w W7) := Lib.hid (by rw [hW7]; exact below_drewN HB06.out d7)
    have hH := heldn_any v1 (marksN 1 ls.length) 1 (by omega) (by rw [marksN_len]; omega) W7 R7
    rw [HM.out] at hH
    have HH := Lib.hid hH
    clear hH R7 hW7 HE
    go_wp2_with fail
    refine HH.out.mono ?_
    rintro e W8 ⟨rfl, rfl⟩
    go_wp2_with fail
    go_ret
    exact ⟨rfl, HB07.out⟩
  · have i1 : (1048576 : Int) < (s.size : Int) := by omega
    go_enter Tryd.func6, Tryd.ntmps6
    go_wp2_with fail
    go_ret
    exact ⟨rfl, Below.refl _ _⟩
end Go.Proofs.YtaagaimafhadeaaDoor
