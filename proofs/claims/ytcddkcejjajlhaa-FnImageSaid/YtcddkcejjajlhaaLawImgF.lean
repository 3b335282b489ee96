/-
  laws.FnImage answers true at all bytes.
-/
import Derived.Test.YtcddkcejjajlhaaDrawS
import Derived.Test.YtcddkcejjajlhaaReadImg
import Derived.Test.YtcddkcejjajlhaaExKit
namespace Go.Proofs.Ytcddkcejjajlhaa
open Go.RowKit Go

attribute [local go_sem ↓] Go.wp_at_zero Go.wp_at_succ
theorem xor_pow_ne8 (a s : Nat) : a ≠ a ^^^ 2 ^ s := by
  intro h
  have h2 : a ^^^ (a ^^^ 2 ^ s) = a ^^^ a := by rw [← h]
  rw [← Nat.xor_assoc, Nat.xor_self, Nat.zero_xor] at h2
  have := Nat.two_pow_pos s
  omega
theorem shift8 (x : Nat) : ∃ s r : Nat, r = 2 ^ s ∧ r < 256 ∧ (x : Int).tmod 8 = (s : Int) ∧ IntKind.u64.wrap (s : Int) = (s : Int) ∧ IntKind.u8.wrap (2 ^ min s 8) = (r : Int) := by
  have hs : x % 8 < 8 := Nat.mod_lt _ (by decide)
  have hlt : 2 ^ (x % 8) < 256 := Nat.pow_lt_pow_right (n := 8) (by decide) hs
  refine ⟨x % 8, 2 ^ (x % 8), rfl, hlt, by rw [Int.tmod_eq_emod_of_nonneg (by omega)]; omega, ?_, ?_⟩
  · obtain ⟨q, hq⟩ : ∃ q, x % 8 = q := ⟨_, rfl⟩
    rw [hq] at hs ⊢
    simp [IntKind.wrap, IntKind.bits, IntKind.signed]
    omega
  · obtain ⟨q, hq⟩ : ∃ q, x % 8 = q := ⟨_, rfl⟩
    rw [hq] at hs hlt ⊢
    rw [Nat.min_eq_left (by omega), IntKind.wrap_u8']
    have e : ((2 : Int) ^ q) = ((2 ^ q : Nat) : Int) := by push_cast; rfl
    rw [e]
    obtain ⟨r, hr⟩ : ∃ r, 2 ^ q = r := ⟨_, rfl⟩
    rw [hr] at hlt ⊢
    omega
theorem samecells_same (a b : Value) (xs : List Nat) (w : World) (ha : RdN w a xs) (hb : RdN w b xs) : Calls Try.prog 20 #[a, b] w fun e w' => e = .returned (.bool true) ∧ Below w.heap.size w w' := by
  have h := samecells_any a b xs xs w ha hb
  rw [decide_eq_true rfl] at h
  exact h.mono fun e w' ⟨h1, d, h2⟩ => ⟨h1, by rw [h2]; exact below_drewN (Below.refl _ _) d⟩
set_option maxRecDepth 100000 in
set_option maxHeartbeats 8000000 in
theorem law_FnImage (A : Option Addr) (len cap : Nat) (w : World) (hcode : CodeOk w w.heap.size A len) :
    Calls Try.prog 3 #[.slice A len cap] w fun e w' => e = .returned (.bool true) ∧ Below w.heap.size w w' := by
  have HC := Lib.hid hcode
  clear hcode
  by_cases hbig : (1048576 : Int) < (len : Int)
  · have hb1 : decide ((1048576 : Int) < (len : Int)) = true := by simpa using hbig
    go_enter Try.func3, Try.ntmps3
    go_wp2_with (go_at_call 15; refine (big_any _ _ _ _).mono ?_; rintro e w' ⟨rfl, rfl⟩)
    go_ret
    exact ⟨rfl, Below.refl _ _⟩
  · have hb1 : decide ((1048576 : Int) < (len : Int)) = false := by simpa using hbig
    clear hbig
    go_enter Try.func3, Try.ntmps3
    go_wp2_with (go_at_call 15; refine (big_any _ _ _ _).mono ?_; rintro e w' ⟨rfl, rfl⟩)
    refine (drawimg_any A len cap w HC.out).mono ?_
    rintro e w1 ⟨v, ls, rfl, hl, hs, hown, hb1⟩
    obtain ⟨A1, c1, rfl⟩ := own_form hown
    have HR := Lib.hid (rd_own3 hown (by omega))
    have HB1 := Lib.hid hb1
    have HSL := Lib.hid hs
    have HIM := Lib.hid (fun W (hb : Below w1.heap.size w1 W) => impl_imageof (.slice A1 ls.length c1) ls hs W (HR.out.below hb))
    clear hb1 hs hown
    go_wp2_with fail
    refine (HIM.out _ (below_alloc _ _)).mono ?_
    rintro e w2 ⟨u, rfl, hownb, hb2⟩
    obtain ⟨A2, c2, rfl⟩ := own_form hownb
    obtain ⟨k2, hB2, hz2⟩ := boxes1 hb2
    have hob := hownb.mono (show w1.heap.size ≤ _ by simp)
    have HOB := Lib.hid hob
    have HB2 := Lib.hid (HB1.out.trans (hB2.mono HB1.out.size))
    have H12 := Lib.hid hB2
    have K2 := Lib.hid k2
    have c2' : w2.cell? ⟨w1.heap.size, 0, none⟩ = some (.slice A1 ls.length c1) := k2.cell 0
    have HSO := Lib.hid (fun W => spec_storeok A1 ls.length c1 (by omega) W)
    clear hb2 hB2 k2 hownb hob HIM
    by_cases hok : storeB ls.length = true
    · have himg : imgC ls = imageL ls := if_pos hok
      rw [himg] at HOB ⊢
      have hst := of_decide_eq_true hok
      have HRI := Lib.hid (read_image HSL.out hst.1 hst.2)
      rw [hok] at HSO
      have HL := Lib.hid (imageL_len ls)
      have HMOD := Lib.hid hst
      clear himg hok hst
      go_wp2_with fail
      refine (HSO.out _).mono ?_
      rintro e w3 ⟨rfl, hb3⟩
      have HOB3 := Lib.hid (own_below HOB.out hb3 (Nat.le_refl _))
      have K3 := Lib.hid (K2.out.below hb3 K2.out.lt)
      have HB3 := Lib.hid (HB2.out.trans (hb3.mono HB2.out.size))
      have H13 := Lib.hid (H12.out.trans (hb3.mono H12.out.size))
      have hb256 := imageL_small ls HMOD.out.2
      have hrd := impl_readimage w3 w1.heap.size (.slice A2 (imageL ls).length c2) (imageL ls) hb256 (by rw [HL.out]; omega) HOB3.out
      rw [HRI.out.1, HRI.out.2] at hrd
      have HRD := Lib.hid hrd
      clear hb3 hrd HSO c2' HOB K2 HB2 H12
      go_wp2_with fail
      refine HRD.out.mono ?_
      rintro e w4 ⟨t, rfl, hownt, hb4⟩
      obtain ⟨A4, c4, rfl⟩ := own_form hownt
      have HOB4 := Lib.hid (own_below HOB3.out hb4 (Nat.le_refl _))
      have K4 := Lib.hid (K3.out.below hb4 K3.out.lt)
      have HB4 := Lib.hid (HB3.out.trans (hb4.mono HB3.out.size))
      have H14 := Lib.hid (H13.out.trans (hb4.mono H13.out.size))
      have HSA := Lib.hid (samecells_same (.slice A1 ls.length c1) (.slice A4 ls.length c4) ls _ (((HR.out.below H14.out)).below (below_alloc w4 (.cells #[.slice A4 ls.length c4] 26))) ((rd_own3 hownt (by omega)).below (below_alloc w4 (.cells #[.slice A4 ls.length c4] 26))))
      have c4' : w4.cell? ⟨w1.heap.size, 0, none⟩ = some (.slice A1 ls.length c1) := K4.out.cell 0
      have hlt4 : w1.heap.size < w4.heap.size := K4.out.lt
      obtain ⟨n, hn⟩ : ∃ n, (imageL ls).length = n := ⟨_, rfl⟩
      have HN := Lib.hid hn
      have hn2 : n = 5 + 4 * ls.length := by rw [← hn]; exact HL.out
      have HN2 := Lib.hid hn2
      have hn5 : 5 ≤ n := by omega
      have hn9 : n ≤ 4005 := by omega
      clear hb4 hownt HRD HOB3 K3 HB3 H13 hb256 hn2
      rw [hn]
      go_wp2_with fail
      refine HSA.out.mono ?_
      rintro e w5 ⟨rfl, hb5⟩
      obtain ⟨k5t, hB5, hz5⟩ := boxes1 hb5
      have HOB5 := Lib.hid (own_below HOB4.out hB5 (Nat.le_refl _))
      have HB5 := Lib.hid (HB4.out.trans (hB5.mono HB4.out.size))
      have k5 := K4.out.below hB5 K4.out.lt
      have c5' : w5.cell? ⟨w1.heap.size, 0, none⟩ = some (.slice A1 ls.length c1) := k5.cell 0
      have jn : ((n : Int) != 5 + 4 * (ls.length : Int)) = false := by have := HN2.out; simp; omega
      have HA0 := Lib.hid (at_any A len cap 0 (by omega) w5 ((HC.out.below HB5.out).more HB5.out.size))
      have HA1 := Lib.hid (at_any A len cap 1 (by omega) w5 ((HC.out.below HB5.out).more HB5.out.size))
      clear hb5 k5t hB5 k5 HSA c4'
      go_wp2_with fail
      refine HA0.out.mono ?_
      rintro e w' ⟨x0, rfl, hx0, rfl⟩
      go_wp2_with fail
      refine HA1.out.mono ?_
      rintro e w' ⟨x1, rfl, hx1, rfl⟩
      obtain ⟨i, hi⟩ : ∃ i : Nat, ((x0 : Int) * 256 + (x1 : Int)) % (n : Int) = (i : Int) := ⟨(((x0 : Int) * 256 + (x1 : Int)) % (n : Int)).toNat, (Int.toNat_of_nonneg (Int.emod_nonneg _ (by omega))).symm⟩
      have hil : i < n := by
        have hpos : (0 : Int) < (n : Int) := by omega
        have := Int.emod_lt_of_pos ((x0 : Int) * 256 + (x1 : Int)) hpos
        omega
      have k1 : (0 : Int) ≤ (i : Int) := by omega
      have k2 : (i : Int) < (n : Int) := by omega
      obtain ⟨g2, cap2, cur, hv, hrow⟩ := own_row HOB5.out (by rw [HN.out]; omega)
      injection hv with hv1 hv2 hv3
      subst hv1
      have hil2 : i < (imageL ls).length := by rw [HN.out]; exact hil
      have ho5 := HOB5.out
      rw [HN.out] at ho5
      have hg2 : w1.heap.size ≤ g2 := hrow.base
      clear hrow hv2 HOB5
      have hcell : w5.cell? ⟨g2, i, none⟩ = some (.int .u8 (((imageL ls)[i] : Nat) : Int)) := by
        rw [ho5.cellAt i (by omega), List.getElem?_map, List.getElem?_eq_getElem hil2]
        rfl
      have hfr := ho5.frozenAt i
      have hlv := imageL_small ls HMOD.out.2 _ (List.getElem_mem hil2)
      obtain ⟨y, hy⟩ : ∃ y, (imageL ls)[i] = y := ⟨_, rfl⟩
      have HY := Lib.hid hy
      rw [hy] at hcell hlv
      have HA2 := Lib.hid (at_any A len cap 2 (by omega) w5.drew ((HC.out.below HB5.out).more HB5.out.size))
      have HO5 := Lib.hid ho5
      clear hy HA0 HA1 ho5 c5' hv3
      go_wp2_with fail
      go_region_with (go_at_call 21; refine HA2.out.mono ?_; rintro e w' ⟨x2, rfl, hx2, rfl⟩; obtain ⟨s, r, hr, hrl, ht, hu, hp⟩ := shift8 x2; have hxor := u8_xor_nat y r hlv hrl; obtain ⟨q, hq⟩ : ∃ q, y ^^^ r = q := ⟨_, rfl⟩; rw [hq] at hxor; have HQ := Lib.hid (And.intro hq (And.intro hr hrl)); clear hq hr)
      all_goals
        have hst := HO5.out.stored i (.int .u8 (q : Int))
        rw [show Value.int .u8 (q : Int) = b8v q from rfl, ← List.map_set] at hst
        have hql : q < 256 := by rw [← HQ.out.1]; exact Nat.xor_lt_two_pow (n := 8) hlv HQ.out.2.2
        have hsm : ∀ c ∈ (imageL ls).set i q, c < 256 := fun c hc => by
          rcases List.mem_or_eq_of_mem_set hc with h | h
          · exact imageL_small ls HMOD.out.2 c h
          · rw [h]; exact hql
        have hno : readOk ((imageL ls).set i q) = false := read_turned HSL.out HMOD.out.1 hil2 hql (by rw [HY.out, ← HQ.out.1, HQ.out.2.1]; exact xor_pow_ne8 y s)
        have hln : ((imageL ls).set i q).length = n := by rw [List.length_set]; exact HN.out
        have hrd := impl_readimage (w5.setCell ⟨g2, i, none⟩ (.int .u8 (q : Int))).drew w1.heap.size (.slice (some ⟨g2, 0, none⟩) n c2) ((imageL ls).set i q) hsm (by rw [hln]; omega) (by rw [hln]; exact hst.1)
        rw [hno] at hrd
        have HRD2 := Lib.hid hrd
        have HB6 := Lib.hid (HB5.out.setCell (p := ⟨g2, i, none⟩) (by have := HB1.out.size; show w.heap.size ≤ g2; omega) (.int .u8 (q : Int)))
        clear hst hsm hno hln hrd hcell hfr hxor ht hu hp
        go_wp2_with fail
        refine HRD2.out.mono ?_
        rintro e w7 ⟨t2, rfl, hownt, hb7⟩
        obtain ⟨A7, c7, rfl⟩ := own_form hownt
        have HB7 := Lib.hid (HB6.out.drew.trans (hb7.mono HB6.out.size))
        clear hownt hb7 HRD2
        go_wp2_with fail
        go_ret
        exact ⟨rfl, HB7.out.alloc HB7.out.size _⟩
    · have hok : storeB ls.length = false := by simpa using hok
      have himg : imgC ls = [] := if_neg (by rw [hok]; decide)
      rw [himg]
      rw [hok] at HSO
      clear himg hok HOB
      go_wp2_with fail
      refine (HSO.out _).mono ?_
      rintro e w3 ⟨rfl, hb3⟩
      have HB3 := Lib.hid (HB2.out.trans (hb3.mono HB2.out.size))
      clear hb3
      go_wp2_with fail
      go_ret
      exact ⟨rfl, HB3.out⟩
end Go.Proofs.Ytcddkcejjajlhaa
