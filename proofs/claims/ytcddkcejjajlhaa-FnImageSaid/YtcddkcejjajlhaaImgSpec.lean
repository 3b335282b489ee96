/-
  The bytes of a store: the model's way.
-/
import Derived.Test.YtcddkcejjajlhaaImage
namespace Go.Proofs.Ytcddkcejjajlhaa
open Go.RowKit Go

theorem and255_nat {y : Nat} (hy : y < 4294967296) : bits .and .u32 (y : Int) 255 = ((y % 256 : Nat) : Int) := by
  have h := u32_and_nat y 255 hy (by omega)
  rw [show (255 : Nat) = 2 ^ 8 - 1 from rfl, Nat.and_two_pow_sub_one_eq_mod] at h
  exact h
set_option maxHeartbeats 1000000 in
theorem four_any (x : Nat) (hx : x < 4294967296) (w : World) : Calls Try.prog 78 #[.int .u32 (x : Int)] w (NewM w (fourB x)) := by
  have e1 : (x : Int) / 256 = ((x / 256 : Nat) : Int) := by omega
  have e2 : (x : Int) / 65536 = ((x / 65536 : Nat) : Int) := by omega
  have a0 := and255_nat hx
  have a1 := and255_nat (y := x / 256) (by omega)
  have a2 := and255_nat (y := x / 65536) (by omega)
  rw [← e1] at a1
  rw [← e2] at a2
  obtain ⟨b0, h0⟩ : ∃ b, x % 256 = b := ⟨_, rfl⟩
  obtain ⟨b1, h1⟩ : ∃ b, x / 256 % 256 = b := ⟨_, rfl⟩
  obtain ⟨b2, h2⟩ : ∃ b, x / 65536 % 256 = b := ⟨_, rfl⟩
  rw [h0] at a0
  rw [h1] at a1
  rw [h2] at a2
  have l0 : b0 < 256 := by omega
  have l1 : b1 < 256 := by omega
  have l2 : b2 < 256 := by omega
  have HF : Hid (fourB x = [b0, b1, b2, x / 16777216]) := Lib.hid (by unfold fourB; rw [h0, h1, h2]; congr 4; omega)
  clear e1 e2 h0 h1 h2
  go_enter Try.func78, Try.ntmps78
  go_wp2
  go_ret
  rw [HF.out]
  refine ⟨.slice (some ⟨w.heap.size, 0, none⟩) 4 4, rfl, ?_, below_alloc _ _⟩
  refine own_of_full (xs := [b0, b1, b2, x / 16777216].map b8v) ?_ rfl (Nat.le_refl _) (by unfold maxLen; omega)
  rw [heap_alloc_new]
  simp [b8v]
theorem own_one (w : World) (e : TypeId) (u : Value) : (w.alloc (.cells #[u] e)).ownsRow w.heap.size e 1 (.slice (some ⟨w.heap.size, 0, none⟩) 1 1) 1 [u] :=
  own_of_full (by rw [heap_alloc_new]) rfl (Nat.le_refl _) (by unfold maxLen; omega)
theorem cells_of_rd8 {w : World} {a : Addr} {n c : Nat} {xs : List Nat} (h : RdM w (.slice (some a) n c) xs) : ∀ j u, (xs.map b8v)[j]? = some u → w.cell? (a.add j) = some u := by
  obtain ⟨A, cap, e, hl, hc⟩ := h
  injection e with e1 e2 e3
  intro j u hu
  rw [List.getElem?_map, Option.map_eq_some_iff] at hu
  obtain ⟨x, hx, rfl⟩ := hu
  obtain ⟨hj, hx⟩ := List.getElem?_eq_some_iff.1 hx
  obtain ⟨b, hb, -, hcell⟩ := hc j hj
  rw [← e1] at hb
  injection hb with hb
  subst hb
  rw [hcell, hx]
set_option maxHeartbeats 2000000 in
theorem spec_imageof_yes (v : Value) (xs : List Nat) (hxs : ∀ x ∈ xs, x < 4294967296) (w : World) (hr : RdN w v xs) (h1 : xs.length % 64 = 0) (h2 : xs.length ≤ 768) : Calls Try.prog 51 #[stA v] w (NewM w (imageL xs)) := by
  obtain ⟨i0, hi, hz0, hz1, hz2⟩ := info_parts infoB8
  have HRD := Lib.hid (fun W (hb : Below w.heap.size w W) => hr.below hb)
  obtain ⟨A, c, rfl⟩ := hr.form
  have HS := Lib.hid (fun W => spec_storeok A xs.length c hr.small W)
  rw [show storeB xs.length = true from decide_eq_true ⟨h1, h2⟩] at HS
  have HX := Lib.hid hxs
  obtain ⟨q, hq⟩ : ∃ q, xs.length / 64 = q := ⟨_, rfl⟩
  have hq2 : (xs.length : Int) / 64 = (q : Int) := by omega
  have hq12 : q ≤ 12 := by omega
  have HQ := Lib.hid hq
  clear hr hxs h1 hq
  go_enter Try.func51, Try.ntmps51
  go_wp2_with fail
  refine (HS.out _).mono ?_
  rintro e w1 ⟨rfl, hb1⟩
  obtain ⟨k1, hB1, hz⟩ := boxes1 hb1
  have c1 : w1.cell? ⟨w.heap.size, 0, none⟩ = some (.slice A xs.length c) := k1.cell 0
  have K1 := Lib.hid k1
  have HB1 := Lib.hid hB1
  clear hb1 k1 hB1 HS
  go_wp2_with fail
  have hstart : (w1.alloc (.cells #[.int .u8 (q : Int)] 5)).ownsRow w1.heap.size 5 1 (.slice (some ⟨w1.heap.size, 0, none⟩) 1 1) (1 + 4 * 0) ((imgA xs 0).map b8v) := by
    have e : (imgA xs 0).map b8v = [.int .u8 (q : Int)] := by unfold imgA; rw [HQ.out]; rfl
    rw [e]
    exact own_one _ _ _
  go_loopw [3, 4] (fun vo vi wr => ∃ i : Nat, vi = .int .i64 i ∧ i ≤ xs.length ∧ wr.ownsRow w1.heap.size 5 1 vo (1 + 4 * i) ((imgA xs i).map b8v) ∧ Below w1.heap.size w1 wr) (fun _ vi _ => xs.length - (intOf vi).toNat)
  case atStart => exact ⟨0, rfl, by omega, hstart, below_alloc _ _⟩
  case round =>
    clear hstart
    obtain ⟨i, rfl, hi2, hO, hB⟩ := hrel
    have cb : wr.cell? ⟨w.heap.size, 0, none⟩ = some (.slice A xs.length c) := (K1.out.below hB (by omega)).cell 0
    by_cases hp : i < xs.length
    · have i2 : (i : Int) < (xs.length : Int) := by omega
      have hBw := HB1.out.trans (hB.mono HB1.out.size)
      obtain ⟨a, hA0, hcy⟩ := rd_src (HRD.out _ hBw) (by omega)
      subst hA0
      have hci : wr.cell? (a.add i) = some (.int .u32 (xs[i] : Int)) := hcy i _ (by simp [hp, u32v])
      have HF := Lib.hid (four_any xs[i] (HX.out _ (List.getElem_mem hp)) wr)
      have HST := Lib.hid (imgA_succ hp)
      have HO := Lib.hid hO
      have HBr := Lib.hid hB
      clear hcy hBw hO hB
      go_wp2_with fail
      refine HF.out.mono ?_
      rintro e w2 ⟨u, rfl, hown, hb2⟩
      obtain ⟨g, cap, cur, rfl, hrow⟩ := own_row hown (show 0 < 4 by decide)
      have hown1 := own_below HO.out hb2 (Nat.le_refl _)
      have hcs := cells_of_rd8 (rd_own8 hown (show 4 ≤ 4611686018427387904 by decide))
      have HCS := Lib.hid hcs
      have HB2 := Lib.hid (HBr.out.trans (hb2.mono HBr.out.size))
      clear hown hb2 hrow hcs HF hci cb
      go_wp2_with (at_builtin; refine wpList_append_own _ rfl _ _ 22 rfl w1.heap.size 5 i0 (.int .u8 0) 1 1 Try.underlying22 hi hz0 hz1 hz2 rfl (by decide) _ _ _ rfl hown1 ⟨g, 0, none⟩ _ _ ((fourB xs[i]).map b8v) rfl (by simp) HCS.out (one_b8 _) (by show 1 + 4 * i + 4 ≤ _; unfold maxLen; omega) (by show (1 + 4 * i + 4) * 1 ≤ _; omega) (by have := HB2.out.size; exact this) ?_; intro v' w3 hown' hgr hif; clear hif)
      have hO3 : w3.ownsRow w1.heap.size 5 1 v' (1 + 4 * (i + 1)) ((imgA xs (i + 1)).map b8v) := by
        rw [HST.out, List.map_append, show 1 + 4 * (i + 1) = 1 + 4 * i + 4 by omega]
        exact hown'
      have HO3 := Lib.hid hO3
      have HB3 := Lib.hid (HB2.out.grown hgr HB2.out.size (own_lt hown1))
      clear hO3 hown' hgr hown1
      go_roundw
      case rel => exact ⟨i + 1, by go_num, by omega, HO3.out, HB3.out⟩
      case measure => simp [intOf]; omega
    · obtain rfl : i = xs.length := by omega
      have hBw := HB1.out.trans (hB.mono HB1.out.size)
      have HSUM := Lib.hid (spec_sum (.slice A xs.length c) xs HX.out wr (HRD.out _ hBw))
      obtain ⟨z, hz'⟩ : ∃ z, sumL xs = z := ⟨_, rfl⟩
      have hzl := sumL_lt xs
      rw [hz'] at HSUM hzl
      have HF := Lib.hid (four_any z hzl wr)
      have HZZ := Lib.hid hz'
      have HO := Lib.hid hO
      have HBr := Lib.hid hB
      clear hBw hO hB hz' hzl
      go_wp2_with fail
      refine HSUM.out.mono ?_
      rintro e w2 ⟨rfl, rfl⟩
      go_wp2_with fail
      refine HF.out.mono ?_
      rintro e w2 ⟨u, rfl, hown, hb2⟩
      obtain ⟨g, cap, cur, rfl, hrow⟩ := own_row hown (show 0 < 4 by decide)
      have hown1 := own_below HO.out hb2 (Nat.le_refl _)
      have hcs := cells_of_rd8 (rd_own8 hown (show 4 ≤ 4611686018427387904 by decide))
      have HCS := Lib.hid hcs
      have HB2 := Lib.hid (HBr.out.trans (hb2.mono HBr.out.size))
      clear hown hb2 hrow hcs HF cb HSUM
      go_wp2_with (at_builtin; refine wpList_append_own _ rfl _ _ 22 rfl w1.heap.size 5 i0 (.int .u8 0) 1 1 Try.underlying22 hi hz0 hz1 hz2 rfl (by decide) _ _ _ rfl hown1 ⟨g, 0, none⟩ _ _ ((fourB z).map b8v) rfl (by simp) HCS.out (one_b8 _) (by show 1 + 4 * xs.length + 4 ≤ _; unfold maxLen; omega) (by show (1 + 4 * xs.length + 4) * 1 ≤ _; omega) (by have := HB2.out.size; exact this) ?_; intro v' w3 hown' hgr hif; clear hif)
      go_ret
      have hl := imageL_len xs
      have e1 : imageL xs = imgA xs xs.length ++ fourB z := by
        rw [← HZZ.out]
        unfold imgA imageL
        rw [List.take_length, List.flatMap_append]
        simp
      refine ⟨v', rfl, ?_, HB1.out.trans ((HB2.out.grown hgr HB2.out.size (own_lt hown1)).mono HB1.out.size)⟩
      rw [hl, e1, List.map_append, show 5 + 4 * xs.length = 1 + 4 * xs.length + 4 by omega]
      exact World.ownsRow.mono hown' HB1.out.size
theorem spec_imageof (v : Value) (xs : List Nat) (hxs : ∀ x ∈ xs, x < 4294967296) (w : World) (hr : RdN w v xs) : Calls Try.prog 51 #[stA v] w (NewM w (imgC xs)) := by
  by_cases hs : storeB xs.length = true
  · have e : imgC xs = imageL xs := if_pos hs
    rw [e]
    exact spec_imageof_yes v xs hxs w hr (of_decide_eq_true hs).1 (of_decide_eq_true hs).2
  · have e : imgC xs = [] := if_neg hs
    have hs : storeB xs.length = false := by simpa using hs
    rw [e]
    obtain ⟨A, c, rfl⟩ := hr.form
    have HS := Lib.hid (fun W => spec_storeok A xs.length c hr.small W)
    rw [hs] at HS
    clear hr hxs hs e
    go_enter Try.func51, Try.ntmps51
    go_wp2_with fail
    refine (HS.out _).mono ?_
    rintro e w1 ⟨rfl, hb1⟩
    obtain ⟨-, hB1, -⟩ := boxes1 hb1
    have HB1 := Lib.hid hB1
    clear hb1 hB1
    go_wp2_with fail
    go_ret
    exact newm_empty HB1.out
end Go.Proofs.Ytcddkcejjajlhaa
