/-
  laws.FnSum answers true at all bytes.
-/
import Derived.Test.YtcddkcejjajlhaaDrawS
import Derived.Test.YtcddkcejjajlhaaSum
import Derived.Test.YtcddkcejjajlhaaClone
namespace Go.Proofs.Ytcddkcejjajlhaa
open Go.RowKit Go

attribute [local go_sem ↓] Go.wp_at_zero Go.wp_at_succ
theorem xor_pow_ne (a s : Nat) : a ≠ a ^^^ 2 ^ s := by
  intro h
  have h2 : a ^^^ (a ^^^ 2 ^ s) = a ^^^ a := by rw [← h]
  rw [← Nat.xor_assoc, Nat.xor_self, Nat.zero_xor] at h2
  have := Nat.two_pow_pos s
  omega
theorem shift32 (x : Nat) : ∃ s r : Nat, r = 2 ^ s ∧ r < 4294967296 ∧ (x : Int).tmod 32 = (s : Int) ∧ IntKind.u64.wrap (s : Int) = (s : Int) ∧ IntKind.u32.wrap (2 ^ min s 32) = (r : Int) := by
  have hs : x % 32 < 32 := Nat.mod_lt _ (by decide)
  have hlt : 2 ^ (x % 32) < 4294967296 := Nat.pow_lt_pow_right (n := 32) (by decide) hs
  refine ⟨x % 32, 2 ^ (x % 32), rfl, hlt, by rw [Int.tmod_eq_emod_of_nonneg (by omega)]; omega, ?_, ?_⟩
  · obtain ⟨q, hq⟩ : ∃ q, x % 32 = q := ⟨_, rfl⟩
    rw [hq] at hs ⊢
    simp [IntKind.wrap, IntKind.bits, IntKind.signed]
    omega
  · obtain ⟨q, hq⟩ : ∃ q, x % 32 = q := ⟨_, rfl⟩
    rw [hq] at hs hlt ⊢
    rw [Nat.min_eq_left (by omega), IntKind.wrap_u32']
    have e : ((2 : Int) ^ q) = ((2 ^ q : Nat) : Int) := by push_cast; rfl
    rw [e]
    obtain ⟨r, hr⟩ : ∃ r, 2 ^ q = r := ⟨_, rfl⟩
    rw [hr] at hlt ⊢
    omega
set_option maxRecDepth 100000 in
set_option maxHeartbeats 8000000 in
theorem law_FnSum (A : Option Addr) (len cap : Nat) (w : World) (hcode : CodeOk w w.heap.size A len) :
    Calls Try.prog 5 #[.slice A len cap] w fun e w' => e = .returned (.bool true) ∧ Below w.heap.size w w' := by
  obtain ⟨i0, hinf, hz0, hz1, hz2⟩ := info_parts infoU32
  have HC := Lib.hid hcode
  clear hcode
  by_cases hbig : (1048576 : Int) < (len : Int)
  · have hb1 : decide ((1048576 : Int) < (len : Int)) = true := by simpa using hbig
    go_enter Try.func5, Try.ntmps5
    go_wp2_with (go_at_call 15; refine (big_any _ _ _ _).mono ?_; rintro e w' ⟨rfl, rfl⟩)
    go_ret
    exact ⟨rfl, Below.refl _ _⟩
  · have hb1 : decide ((1048576 : Int) < (len : Int)) = false := by simpa using hbig
    clear hbig
    go_enter Try.func5, Try.ntmps5
    go_wp2_with (go_at_call 15; refine (big_any _ _ _ _).mono ?_; rintro e w' ⟨rfl, rfl⟩)
    refine (drawsum_any A len cap w HC.out).mono ?_
    rintro e w1 ⟨v, ls, rfl, hl, hs, hown, hb1⟩
    obtain ⟨A1, c1, rfl⟩ := own_form hown
    have hr := rd_own3 hown (by omega)
    have HR := Lib.hid hr
    have HB1 := Lib.hid hb1
    have HS1 := Lib.hid (impl_sum _ ls hs w1 hr)
    have HS2 := Lib.hid (spec_sum _ ls hs w1 hr)
    have HSL := Lib.hid hs
    obtain ⟨z, hz⟩ : ∃ z, sumL ls = z := ⟨_, rfl⟩
    have HZ := Lib.hid hz
    rw [hz] at HS1 HS2
    clear hr hb1 hs hown hz
    go_wp2_with fail
    refine HS1.out.mono ?_
    rintro e w' ⟨rfl, rfl⟩
    go_wp2_with fail
    refine HS2.out.mono ?_
    rintro e w' ⟨rfl, rfl⟩
    by_cases h0 : ls.length = 0
    · have j0 : ((ls.length : Int) == 0) = true := by rw [h0]; rfl
      clear h0
      go_wp2_with fail
      refine HS2.out.mono ?_
      rintro e w' ⟨rfl, rfl⟩
      go_wp2_with fail
      go_ret
      exact ⟨rfl, HB1.out⟩
    · have j0 : ((ls.length : Int) == 0) = false := by simpa using h0
      obtain ⟨a, c2, hv⟩ := rd_some HR.out (by omega)
      injection hv with hv1 hv2 hv3
      subst hv1
      have HX := Lib.hid (cells_of_rd (HR.out.below (below_alloc w1 (.cells #[] 43))))
      go_wp2_with (at_builtin; refine wpList_append_own _ rfl _ _ 24 rfl w1.heap.size 43 i0 (.int .u32 0) 1 4 Try.underlying24 hinf hz0 hz1 hz2 rfl (by decide) _ 0 [] rfl (own_empty w1 43) a ls.length c2 (ls.map u32v) rfl (by simp) HX.out (one_u32 _) (by unfold maxLen; omega) (by omega) (by simp) ?_; intro v' w2 hown2 hgr hif; clear hif)
      rw [Nat.zero_add, List.nil_append] at hown2
      obtain ⟨g2, cap2, cur, rfl, hrow⟩ := own_row hown2 (by omega)
      have HO2 := Lib.hid hown2
      have HB2 := Lib.hid (HB1.out.trans (((below_alloc w1 _).grown hgr (by simp) (fun k hk => own_lt (own_empty w1 43) k hk)).mono HB1.out.size))
      have hg2 : w1.heap.size ≤ g2 := hrow.base
      have hcp := hrow.le
      clear hown2 hgr hrow HX hv2 hv3
      have HA1 := Lib.hid (at_any A len cap 1 (by omega) w2 (HC.out.below HB2.out |>.more HB2.out.size))
      refine HA1.out.mono ?_
      rintro e w' ⟨x, rfl, hx, rfl⟩
      obtain ⟨i, hi⟩ : ∃ i : Nat, (x : Int) % (ls.length : Int) = (i : Int) := ⟨x % ls.length, by rw [← Int.natCast_emod]⟩
      have hil : i < ls.length := by
        have hpos : (0 : Int) < (ls.length : Int) := by omega
        have := Int.emod_lt_of_pos (x : Int) hpos
        omega
      have k1 : (0 : Int) ≤ (i : Int) := by omega
      have k2 : (i : Int) < (ls.length : Int) := by omega
      have hcell : w2.cell? ⟨g2, i, none⟩ = some (.int .u32 ((ls[i] : Nat) : Int)) := by
        rw [HO2.out.cellAt i (by omega), List.getElem?_map, List.getElem?_eq_getElem hil]
        rfl
      have hfr := HO2.out.frozenAt i
      have hlv := HSL.out _ (List.getElem_mem hil)
      obtain ⟨y, hy⟩ : ∃ y, ls[i] = y := ⟨_, rfl⟩
      have HY := Lib.hid hy
      rw [hy] at hcell hlv
      have HA2 := Lib.hid (at_any A len cap 2 (by omega) w2.drew ((HC.out.below HB2.out).more HB2.out.size))
      clear hy HA1
      go_wp2_with fail
      go_region_with (go_at_call 21; refine HA2.out.mono ?_; rintro e w' ⟨x2, rfl, hx2, rfl⟩; obtain ⟨s, r, hr, hrl, ht, hu, hp⟩ := shift32 x2; have hxor := u32_xor_nat y r hlv hrl; obtain ⟨q, hq⟩ : ∃ q, y ^^^ r = q := ⟨_, rfl⟩; rw [hq] at hxor; have HQ := Lib.hid (And.intro hq (And.intro hr hrl)); clear hq hr)
      all_goals
        have hst := HO2.out.stored i (.int .u32 (q : Int))
        rw [show Value.int .u32 (q : Int) = u32v q from rfl, ← List.map_set] at hst
        have hql : q < 4294967296 := by rw [← HQ.out.1]; exact xor32 hlv HQ.out.2.2
        have hrd := rd_own3 hst.1 (by omega)
        have hsm : ∀ c ∈ ls.set i q, c < 4294967296 := fun c hc => by
          rcases List.mem_or_eq_of_mem_set hc with h | h
          · exact HSL.out c h
          · rw [h]; exact hql
        have hne : sumL (ls.set i q) ≠ z := by
          rw [← HZ.out]
          refine sum_set hil HSL.out hql ?_
          rw [HY.out, ← HQ.out.1, HQ.out.2.1]
          exact xor_pow_ne y s
        obtain ⟨z2, hz2'⟩ : ∃ z2, sumL (ls.set i q) = z2 := ⟨_, rfl⟩
        have hz3 : ((z2 : Int) != (z : Int)) = true := by rw [← hz2']; exact u32_bne hne
        have HS3 := Lib.hid (impl_sum (.slice (some ⟨g2, 0, none⟩) ls.length cap2) (ls.set i q) hsm (w2.setCell ⟨g2, i, none⟩ (.int .u32 (q : Int))).drew hrd)
        rw [hz2'] at HS3
        have HB3 := Lib.hid (HB2.out.setCell (p := ⟨g2, i, none⟩) (by have := HB1.out.size; show w.heap.size ≤ g2; omega) (.int .u32 (q : Int)))
        clear hst hrd hsm hne hz2' hcell hfr hxor ht hu hp
        go_wp2_with fail
        refine HS3.out.mono ?_
        rintro e w' ⟨rfl, rfl⟩
        go_wp2_with fail
        go_ret
        exact ⟨rfl, HB3.out.drew⟩
end Go.Proofs.Ytcddkcejjajlhaa
