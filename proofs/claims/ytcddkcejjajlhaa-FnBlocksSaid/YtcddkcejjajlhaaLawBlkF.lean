/-
  laws.FnBlocks answers true at all bytes.
-/
import Derived.Test.YtcddkcejjajlhaaDrawS
import Derived.Test.YtcddkcejjajlhaaCopyBlk
import Derived.Test.YtcddkcejjajlhaaExKit
namespace Go.Proofs.Ytcddkcejjajlhaa
open Go.RowKit Go

attribute [local go_sem ↓] Go.wp_at_zero Go.wp_at_succ
theorem samecells_b (a b : Value) (xs ys : List Nat) (w : World) (ha : RdN w a xs) (hb : RdN w b ys) (h : xs = ys) : Calls Try.prog 20 #[a, b] w fun e w' => e = .returned (.bool true) ∧ Below w.heap.size w w' := by
  have h2 := samecells_any a b xs ys w ha hb
  rw [decide_eq_true h] at h2
  exact h2.mono fun e w' ⟨h1, d, h2⟩ => ⟨h1, by rw [h2]; exact below_drewN (Below.refl _ _) d⟩
theorem padL_eq (ys : List Nat) : padL ys = ys ++ List.replicate (64 - ys.length) 0 := rfl
set_option maxHeartbeats 2000000 in
theorem padded_any (base : Nat) (v : Value) (ys : List Nat) (hm : ys.length ≤ 64) (w : World) (hown : w.ownsRow base 43 1 v ys.length (ys.map u32v)) : Calls Try.prog 26 #[v] w (NewN w (padL ys)) := by
  obtain ⟨i0, hi, hz0, hz1, hz2⟩ := info_parts infoU32
  have HO := Lib.hid (hown.alloc (.cells #[] 43))
  clear hown
  go_enter Try.func26, Try.ntmps26
  go_wp2_with (at_builtin; refine wpList_append_row rfl _ _ 24 rfl w.heap.size base 43 i0 (.int .u32 0) 4 Try.underlying24 hi hz0 hz1 hz2 rfl _ 0 [] rfl (own_empty w 43) _ ys.length _ rfl HO.out (one_u32' ys) (by unfold maxLen; omega) (by omega) (by simp) ?_; intro v1 w1 hown1 HGR1)
  rw [Nat.zero_add, List.nil_append] at hown1
  have HS : Hid (w1.ownsRow w.heap.size 43 1 v1 (ys.length + 0) ((ys ++ List.replicate 0 0).map u32v) ∧ Below w.heap.size w w1) := Lib.hid ⟨by simpa using hown1, (below_alloc w _).grown HGR1.out (by simp) (fun k hk => own_lt (own_empty w 43) k hk)⟩
  clear hown1 HGR1 HO
  go_loopw [3] (fun vo wr => ∃ j : Nat, ys.length + j ≤ 64 ∧ Hid (wr.ownsRow w.heap.size 43 1 vo (ys.length + j) ((ys ++ List.replicate j 0).map u32v) ∧ Below w.heap.size w wr) ∧ vo = .slice (match vo with | .slice A _ _ => A | _ => none) (ys.length + j) (match vo with | .slice _ _ c => c | _ => 0)) (fun vo _ => 64 - (match vo with | .slice _ n _ => n | _ => 0))
  case atStart =>
    obtain ⟨A, c, e⟩ := own_form HS.out.1
    subst e
    exact ⟨0, by omega, HS, rfl⟩
  case round =>
    obtain ⟨j, hj, HO, e⟩ := hrel
    clear HS
    obtain ⟨A, c, e2⟩ := own_form HO.out.1
    subst e2
    clear e
    by_cases hp : ys.length + j < 64
    · have i2 : ((ys.length : Int) + (j : Int)) < 64 := by omega
      have i3 : (((ys.length + j : Nat) : Int)) < 64 := by omega
      go_wp2_with (at_builtin; refine wpList_append_own _ rfl _ _ 24 rfl w.heap.size 43 i0 (.int .u32 0) 1 4 Try.underlying24 hi hz0 hz1 hz2 rfl (by decide) _ _ _ rfl (HO.out.1.alloc _) ⟨wr.heap.size, 0, none⟩ 1 1 [.int .u32 0] rfl rfl (cell_one_new _ _ _) (by simp [Value.oneCell']) (by unfold maxLen; omega) (by omega) (by have := HO.out.2.size; simp; omega) ?_; intro v2 w2 hown2 hgr2 hif; clear hif)
      have HO2 : Hid (w2.ownsRow w.heap.size 43 1 v2 (ys.length + (j + 1)) ((ys ++ List.replicate (j + 1) 0).map u32v) ∧ Below w.heap.size w w2) := Lib.hid ⟨by
        rw [List.replicate_succ', ← List.append_assoc, List.map_append, ← Nat.add_assoc]
        exact hown2, (HO.out.2.alloc HO.out.2.size _).grown hgr2 (by have := HO.out.2.size; simp; omega) (own_lt HO.out.1)⟩
      clear hown2 hgr2
      obtain ⟨A2, c2, e2⟩ := own_form HO2.out.1
      subst e2
      go_roundw
      case rel => exact ⟨j + 1, by omega, HO2, rfl⟩
      case measure => simp; omega
    · have i3 : ¬ (((ys.length + j : Nat) : Int)) < 64 := by omega
      have i2 : ¬ ((ys.length : Int) + (j : Int)) < 64 := by omega
      have hjj : j = 64 - ys.length := by omega
      go_wp2
      go_ret
      refine ⟨_, rfl, ?_, HO.out.2⟩
      rw [padL_len hm, padL_eq, ← hjj, show 64 = ys.length + j by omega]
      exact HO.out.1

theorem padL_full {l : List Nat} (h : l.length = 64) : padL l = l := by
  rw [padL_eq, h]
  simp
set_option maxRecDepth 100000 in
set_option maxHeartbeats 8000000 in
theorem law_FnBlocks (A : Option Addr) (len cap : Nat) (w : World) (hcode : CodeOk w w.heap.size A len) :
    Calls Try.prog 4 #[.slice A len cap] w fun e w' => e = .returned (.bool true) ∧ Below w.heap.size w w' := by
  have HC := Lib.hid hcode
  clear hcode
  by_cases hbig : (1048576 : Int) < (len : Int)
  · have hb1 : decide ((1048576 : Int) < (len : Int)) = true := by simpa using hbig
    go_enter Try.func4, Try.ntmps4
    go_wp2_with (go_at_call 15; refine (big_any _ _ _ _).mono ?_; rintro e w' ⟨rfl, rfl⟩)
    go_ret
    exact ⟨rfl, Below.refl _ _⟩
  · have hb1 : decide ((1048576 : Int) < (len : Int)) = false := by simpa using hbig
    clear hbig
    go_enter Try.func4, Try.ntmps4
    go_wp2_with (go_at_call 15; refine (big_any _ _ _ _).mono ?_; rintro e w' ⟨rfl, rfl⟩)
    refine (drawput_any A len cap w HC.out).mono ?_
    rintro e w1 ⟨v, u, ls, ys, b, rfl, hbb, hl, hyl, hs, hys, hown, howny, hb1⟩
    obtain ⟨A1, c1, rfl⟩ := own_form hown
    obtain ⟨B1, d1, rfl⟩ := own_form howny
    have HR := Lib.hid (rd_own3 hown (by omega))
    have HRY := Lib.hid (rd_own3 howny (by omega))
    have HCP := Lib.hid (own_cap hown)
    have HOY := Lib.hid howny
    have HB1 := Lib.hid hb1
    have HIP := Lib.hid (fun W (hb : Below w1.heap.size w1 W) => impl_putblock (.slice A1 ls.length c1) (.slice B1 ys.length d1) ls ys b W (HR.out.below hb) (HRY.out.below hb))
    have HSP := Lib.hid (fun W (hb : Below w1.heap.size w1 W) => spec_putblock (.slice A1 ls.length c1) (.slice B1 ys.length d1) ls ys b W (HR.out.below hb) (HRY.out.below hb))
    obtain ⟨L, hL⟩ : ∃ L, putC ls b ys = L := ⟨_, rfl⟩
    obtain ⟨q, hq⟩ : ∃ q, putOk ls.length b ys.length = q := ⟨_, rfl⟩
    have HLQ := Lib.hid (And.intro hL hq)
    rw [hL, hq] at HIP HSP
    clear hb1 hs hys hown howny hL hq
    go_wp2_with fail
    refine (HIP.out _ (below_alloc _ _)).mono ?_
    rintro e w2 ⟨t, rfl, hownt, hb2⟩
    obtain ⟨A2, c2, rfl⟩ := own_form hownt
    obtain ⟨k2, hB2, hz2⟩ := boxes1 hb2
    have hot := hownt.mono (show w1.heap.size ≤ _ by simp)
    have HOT := Lib.hid hot
    have H12 := Lib.hid hB2
    have K2 := Lib.hid k2
    have c2' : w2.cell? ⟨w1.heap.size, 0, none⟩ = some (.slice A1 ls.length c1) := k2.cell 0
    have hlt2 : w1.heap.size < w2.heap.size := by omega
    clear hb2 hB2 k2 hownt hot HIP
    go_wp2_with fail
    refine (HSP.out _ (H12.out.alloc H12.out.size _)).mono ?_
    rintro e w3 ⟨t3, rfl, hown3, hb3⟩
    obtain ⟨A3, c3, rfl⟩ := own_form hown3
    obtain ⟨k3, hB3, hz3⟩ := boxes1 hb3
    have H13 := Lib.hid (H12.out.trans (hB3.mono H12.out.size))
    have HOT3 := Lib.hid (own_below HOT.out hB3 (Nat.le_refl _))
    have KS := Lib.hid (K2.out.below hB3 K2.out.lt)
    have KT := Lib.hid k3
    clear hb3 hB3 k3 hown3 HSP K2 HOT c2'
    cases q with
    | false =>
      have hL0 : L = [] := by
        rw [← HLQ.out.1]
        exact if_neg (by rw [HLQ.out.2]; decide)
      subst hL0
      have ct : w3.cell? ⟨w2.heap.size, 0, none⟩ = some (.slice A2 0 c2) := KT.out.cell 0
      have hlt3 : w2.heap.size < w3.heap.size := by omega
      go_wp2_with fail
      go_ret
      exact ⟨rfl, HB1.out.trans ((H13.out.alloc H13.out.size _).mono HB1.out.size)⟩
    | true =>
      obtain ⟨hL, hq⟩ := HLQ.out
      have hq1 := Bool.and_eq_true_iff.1 hq
      obtain ⟨k, hbk, h1, h2, h3⟩ := hasB_some hq1.1
      have hm64 : ys.length ≤ 64 := of_decide_eq_true hq1.2
      have hLp : L = putL ls k ys := by
        rw [← hL, hbk]
        exact putC_yes (by rw [← hbk]; exact hq)
      have hLl : L.length = ls.length := by rw [hLp]; exact putL_len h3 hm64
      obtain ⟨n, hn⟩ : ∃ n, ls.length / 64 = n := ⟨_, rfl⟩
      have hn64 : ls.length = 64 * n := by omega
      have hkn : k < n := by omega
      have hn12 : n ≤ 12 := by omega
      have HHAS := Lib.hid (fun (i : Nat) (hi : i < n) => show hasB ls.length (i : Int) = true from decide_eq_true ⟨⟨h1, h2⟩, by omega, by omega⟩)
      have HOTH := Lib.hid (fun (i : Nat) (hi : i ≠ k) => show blockL ls i = blockL L i by rw [hLp]; exact (block_other h3 hm64 hi).symm)
      have HPUT := Lib.hid (show blockL L k = padL ys by rw [hLp]; exact block_put h3 hm64)
      have HLL := Lib.hid hLl
      have HN64 := Lib.hid hn64
      have HM := Lib.hid hm64
      subst hbk
      obtain ⟨W3, hW3⟩ : ∃ W3, w3.alloc (.cells #[.slice A3 L.length c3] 26) = W3 := ⟨_, rfl⟩
      have KS3 : Hid (Blk W3 w1.heap.size 26 #[.slice A1 ls.length c1]) := Lib.hid (by rw [← hW3]; exact KS.out.alloc _)
      have KT3 : Hid (Blk W3 w2.heap.size 26 #[.slice A2 L.length c2]) := Lib.hid (by rw [← hW3]; exact KT.out.alloc _)
      have HOT4 : Hid (W3.ownsRow w1.heap.size 43 1 (.slice A2 L.length c2) L.length (L.map u32v)) := Lib.hid (by rw [← hW3]; exact HOT3.out.alloc _)
      have H14 : Hid (Below w1.heap.size w1 W3) := Lib.hid (by rw [← hW3]; exact H13.out.alloc H13.out.size _)
      have HCT := Lib.hid (own_cap HOT3.out)
      have HRT := Lib.hid (rd_own3 HOT4.out (by omega))
      clear hL hq hq1 h1 h2 h3 hLp hLl hn hn64 hm64 HLQ KS KT HOT3 H13 H12
      go_wp2_with fail
      clear hW3
      go_loopw [10] (fun vi wr => ∃ i : Nat, vi = .int .i64 i ∧ i ≤ n ∧ Hid (Below W3.heap.size W3 wr)) (fun vi _ => n - (intOf vi).toNat)
      case atStart => exact ⟨0, rfl, by omega, Lib.hid (Below.refl _ _)⟩
      case round =>
        obtain ⟨i, rfl, hi, HB⟩ := hrel
        have cs : wr.cell? ⟨w1.heap.size, 0, none⟩ = some (.slice A1 ls.length c1) := (KS3.out.below HB.out KS3.out.lt).cell 0
        have ct : wr.cell? ⟨w2.heap.size, 0, none⟩ = some (.slice A2 L.length c2) := (KT3.out.below HB.out KT3.out.lt).cell 0
        have hdv : (ls.length : Int) / 64 = (n : Int) := by have := HN64.out; omega
        by_cases hp : i < n
        · have i2 : (i : Int) < (n : Int) := by omega
          have hbo := fun W (hb : Below w1.heap.size w1 W) => impl_blockof (.slice A1 ls.length c1) ls (i : Int) W (HR.out.below hb) HCP.out
          have hbt := fun W (hb : Below W3.heap.size W3 W) => impl_blockof (.slice A2 L.length c2) L (i : Int) W (HRT.out.below hb) HCT.out
          have e1 : blockC ls (i : Int) = blockL ls i := if_pos (HHAS.out i hp)
          have hht : hasB L.length (i : Int) = true := by rw [HLL.out]; exact HHAS.out i hp
          have e2 : blockC L (i : Int) = blockL L i := if_pos hht
          rw [e1, HHAS.out i hp] at hbo
          rw [e2, hht] at hbt
          have HBO := Lib.hid hbo
          have HBT := Lib.hid hbt
          have hl1 : (blockL ls i).length = 64 := blockL_len (by have := HN64.out; omega)
          have hl2 : (blockL L i).length = 64 := blockL_len (by have := HN64.out; have := HLL.out; omega)
          have HL1 := Lib.hid (And.intro hl1 hl2)
          clear hbo hbt e1 e2 hht hl1 hl2
          go_wp2_with fail
          refine (HBO.out _ (H14.out.trans (HB.out.mono H14.out.size))).mono ?_
          rintro e w4 ⟨v4, rfl, hown4, hb4⟩
          obtain ⟨A4, c4, rfl⟩ := own_form hown4
          have HB4 := Lib.hid (HB.out.trans (hb4.mono HB.out.size))
          have HO4 := Lib.hid hown4
          have ct4 : w4.cell? ⟨w2.heap.size, 0, none⟩ = some (.slice A2 L.length c2) := (KT3.out.below HB4.out KT3.out.lt).cell 0
          clear hb4 hown4 HBO cs ct
          go_wp2_with fail
          refine (HBT.out _ HB4.out).mono ?_
          rintro e w5 ⟨v5, rfl, hown5, hb5⟩
          obtain ⟨A5, c5, rfl⟩ := own_form hown5
          have HB5 := Lib.hid (HB4.out.trans (hb5.mono HB4.out.size))
          have HO4' := Lib.hid (own_below HO4.out hb5 (Nat.le_refl _))
          have HO5 := Lib.hid hown5
          clear hb5 hown5 HBT HO4 ct4
          by_cases hik : i = k
          · subst hik
            have j1 : ((i : Int) != (i : Int)) = false := by simp
            have j2 : ((i : Int) == (i : Int)) = true := by simp
            have HPA := Lib.hid (padded_any w.heap.size (.slice B1 ys.length d1) ys HM.out w5 (own_below HOY.out (H14.out.trans (HB5.out.mono H14.out.size)) (Nat.le_refl _)))
            go_wp2_with fail
            refine HPA.out.mono ?_
            rintro e w6 ⟨v6, rfl, hown6, hb6⟩
            obtain ⟨A6, c6, rfl⟩ := own_form hown6
            have HB6 := Lib.hid (HB5.out.trans (hb6.mono HB5.out.size))
            have HSA := Lib.hid (samecells_b (.slice A5 (blockL L i).length c5) (.slice A6 (padL ys).length c6) (blockL L i) (padL ys) w6 (rd_own3 (own_below HO5.out hb6 (Nat.le_refl _)) (by have := HL1.out; omega)) (rd_own3 hown6 (by rw [padL_len HM.out]; omega)) HPUT.out)
            clear hown6 hb6 HPA
            go_wp2_with fail
            refine HSA.out.mono ?_
            rintro e w7 ⟨rfl, hb7⟩
            have HB7 := Lib.hid (HB6.out.trans (hb7.mono HB6.out.size))
            clear hb7 HSA
            go_wp2_with fail
            go_roundw
            case rel => exact ⟨i + 1, by go_num, by omega, HB7⟩
            case measure => simp [intOf]; omega
          · have j1 : ((i : Int) != (k : Int)) = true := by simp; omega
            have j2 : ((i : Int) == (k : Int)) = false := by simp; omega
            have HSA := Lib.hid (samecells_b _ _ (blockL ls i) (blockL L i) w5 (rd_own3 HO4'.out (by have := HL1.out; omega)) (rd_own3 HO5.out (by have := HL1.out; omega)) (HOTH.out i hik))
            go_wp2_with fail
            refine HSA.out.mono ?_
            rintro e w7 ⟨rfl, hb7⟩
            have HB7 := Lib.hid (HB5.out.trans (hb7.mono HB5.out.size))
            clear hb7 HSA
            go_wp2_with fail
            go_roundw
            case rel => exact ⟨i + 1, by go_num, by omega, HB7⟩
            case measure => simp [intOf]; omega
        · have i2 : ¬ (i : Int) < (n : Int) := by omega
          have hLl := HLL.out
          have hn64 := HN64.out
          have hhk : hasB L.length (k : Int) = true := by rw [hLl]; exact HHAS.out k hkn
          have hh0 : hasB L.length 0 = true := by rw [hLl]; exact HHAS.out 0 (by omega)
          have hbl : (blockL L k).length = 64 := blockL_len (by omega)
          have hpo : putOk L.length ((0 : Nat) : Int) (blockL L k).length = true := put_yes hh0 (by omega)
          have hck : copyOk L.length (k : Int) 0 = true := by unfold copyOk; rw [hhk, ← hbl]; exact hpo
          have hcc : copyC L (k : Int) 0 = putL L 0 (blockL L k) := by
            unfold copyC
            rw [if_pos hhk]
            exact putC_yes hpo
          obtain ⟨M, hM⟩ : ∃ M, putL L 0 (blockL L k) = M := ⟨_, rfl⟩
          have hMl : M.length = L.length := by rw [← hM]; exact putL_len (by omega) (by omega)
          have hMb : blockL M 0 = padL ys := by rw [← hM, block_put (by omega) (by omega), HPUT.out]; exact padL_full (padL_len HM.out)
          have hcb := fun W (hb : Below W3.heap.size W3 W) => impl_copyblock (.slice A2 L.length c2) L (k : Int) 0 W (HRT.out.below hb) HCT.out
          rw [hck, hcc, hM] at hcb
          have hh0M : hasB M.length 0 = true := by rw [hMl]; exact hh0
          have hbc : blockC M 0 = blockL M 0 := if_pos hh0M
          have hbo := fun v W (h : RdN W v M) (hc : CapOk v) => impl_blockof v M 0 W h hc
          rw [hh0M, hbc, hMb] at hbo
          have HCB := Lib.hid hcb
          have HBO := Lib.hid hbo
          have HML := Lib.hid hMl
          have jl : ((L.length : Int) == (ls.length : Int)) = true := by rw [hLl]; simp
          have hpl := padL_len HM.out
          have HPL := Lib.hid hpl
          clear hLl hn64 hhk hh0 hbl hpo hck hcc hM hMl hMb hcb hh0M hbc hbo hpl
          go_wp2_with fail
          refine (HCB.out _ HB.out).mono ?_
          rintro e w4 ⟨v4, rfl, hown4, hb4⟩
          obtain ⟨A4, c4, rfl⟩ := own_form hown4
          have HB4 := Lib.hid (HB.out.trans (hb4.mono HB.out.size))
          have HBO4 := Lib.hid (HBO.out _ _ ((rd_own3 hown4 (by rw [HML.out]; have := HRT.out.small; omega)).below (below_alloc w4 (.cells #[.slice A4 M.length c4] 26))) (own_cap hown4))
          clear hb4 hown4 HCB HBO cs ct
          go_wp2_with fail
          refine HBO4.out.mono ?_
          rintro e w5 ⟨v5, rfl, hown5, hb5⟩
          obtain ⟨A5, c5, rfl⟩ := own_form hown5
          obtain ⟨-, hB5, -⟩ := boxes1 hb5
          have HB5 := Lib.hid (HB4.out.trans (hB5.mono HB4.out.size))
          have HO5 := Lib.hid hown5
          have HPA := Lib.hid (padded_any w.heap.size (.slice B1 ys.length d1) ys HM.out w5 (own_below HOY.out (H14.out.trans (HB5.out.mono H14.out.size)) (Nat.le_refl _)))
          clear hb5 hown5 hB5 HBO4
          go_wp2_with fail
          refine HPA.out.mono ?_
          rintro e w6 ⟨v6, rfl, hown6, hb6⟩
          obtain ⟨A6, c6, rfl⟩ := own_form hown6
          have HB6 := Lib.hid (HB5.out.trans (hb6.mono HB5.out.size))
          have HSA := Lib.hid (samecells_b (.slice A5 (padL ys).length c5) (.slice A6 (padL ys).length c6) (padL ys) (padL ys) w6 (rd_own3 (own_below HO5.out hb6 (Nat.le_refl _)) (by rw [HPL.out]; omega)) (rd_own3 hown6 (by rw [HPL.out]; omega)) rfl)
          clear hown6 hb6 HPA
          go_wp2_with fail
          refine HSA.out.mono ?_
          rintro e w7 ⟨rfl, hb7⟩
          have HB7 := Lib.hid (HB6.out.trans (hb7.mono HB6.out.size))
          have cs7 : w7.cell? ⟨w1.heap.size, 0, none⟩ = some (.slice A1 ls.length c1) := (KS3.out.below HB7.out KS3.out.lt).cell 0
          have ct7 : w7.cell? ⟨w2.heap.size, 0, none⟩ = some (.slice A2 L.length c2) := (KT3.out.below HB7.out KT3.out.lt).cell 0
          clear hb7 HSA
          go_wp2_with fail
          go_ret
          exact ⟨rfl, HB1.out.trans ((H14.out.trans (HB7.out.mono H14.out.size)).mono HB1.out.size)⟩
end Go.Proofs.Ytcddkcejjajlhaa
