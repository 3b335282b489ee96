/-
  impl.CodeOk.
-/
import Derived.Test.YthihfgjolioabaaDoorInsMath
import Derived.Test.YthihfgjolioabaaDoorInsW
import Derived.Test.YthihfgjolioabaaDoorPrimName
import Derived.Test.YthihfgjolioabaaDoorIn
import Derived.Test.YthihfgjolioabaaDoorBlk
import Derived.Handy
import Derived.IntWalk
namespace Go.Proofs.YthihfgjolioabaaDoor
open Go.RowKit Go

/-- Steps whose numbers are numbers of 64 bits. -/
def RngC (xs : List (Int × Int)) : Prop := ∀ o ∈ xs, (-9223372036854775808 ≤ o.1 ∧ o.1 ≤ 9223372036854775807) ∧ (-9223372036854775808 ≤ o.2 ∧ o.2 ≤ 9223372036854775807)
theorem kindsC (k : Int) : k = 0 ∨ k = 1 ∨ (k = 2 ∨ k = 3 ∨ k = 4 ∨ k = 5 ∨ k = 7) ∨ (k = 6 ∨ k = 8 ∨ k = 9) ∨ ((k == 0) = false ∧ (k == 1) = false ∧ (k == 2) = false ∧ (k == 3) = false ∧ (k == 4) = false ∧ (k == 5) = false ∧ (k == 7) = false ∧ (k == 6) = false ∧ (k == 8) = false ∧ (k == 9) = false) := by
  simp only [beq_eq_false_iff_ne]
  omega
theorem okIn_other {k n m : Int} (h : (k == 0) = false ∧ (k == 1) = false ∧ (k == 2) = false ∧ (k == 3) = false ∧ (k == 4) = false ∧ (k == 5) = false ∧ (k == 7) = false ∧ (k == 6) = false ∧ (k == 8) = false ∧ (k == 9) = false) : okIn m (k, n) = false := by
  simp only [beq_eq_false_iff_ne] at h
  unfold okIn
  rw [if_neg (by simp only; omega), if_neg (by simp only; omega), if_neg (by simp only; omega), if_neg (by simp only; omega)]
theorem okIn_0 (m n : Int) : okIn m (0, n) = decide (-2147483648 ≤ n ∧ n ≤ 2147483647) := rfl
theorem okIn_1 (m n : Int) : okIn m (1, n) = decide (0 ≤ n ∧ n ≤ 23) := rfl
theorem okIn_at {k : Int} (m n : Int) (h : k = 2 ∨ k = 3 ∨ k = 4 ∨ k = 5 ∨ k = 7) : okIn m (k, n) = decide (0 ≤ n ∧ n < m) := by rcases h with rfl | rfl | rfl | rfl | rfl <;> rfl
theorem okIn_no {k : Int} (m n : Int) (h : k = 6 ∨ k = 8 ∨ k = 9) : okIn m (k, n) = decide (n = 0) := by rcases h with rfl | rfl | rfl <;> rfl
set_option maxRecDepth 100000 in
set_option maxHeartbeats 2000000 in
theorem impl_insok (k n m : Int) (w : World) : Calls Tryd.prog 28 #[.agg #[.int .i64 k, .int .i64 n], .int .i64 m] w fun e w' => e = .returned (.bool (okIn m (k, n))) ∧ Below w.heap.size w w' := by
  have HBX := Lib.hid (below_alloc1 w (.cells #[.int .i64 k, .int .i64 n] 25))
  rcases kindsC k with rfl | rfl | h | h | h
  · rw [okIn_0]
    have w32 : -2147483648 ≤ IntKind.i32.wrap n ∧ IntKind.i32.wrap n ≤ 2147483647 := by rw [IntKind.wrap_i32]; omega
    have w64 : IntKind.i64.wrap (IntKind.i32.wrap n) = IntKind.i32.wrap n := IntWalk.i64_in _ (by omega)
    have hd : decide (-2147483648 ≤ n ∧ n ≤ 2147483647) = (n == IntKind.i64.wrap (IntKind.i32.wrap n)) := by
      rw [w64]
      by_cases hr : -2147483648 ≤ n ∧ n ≤ 2147483647
      · rw [decide_eq_true hr, IntWalk.i32_in _ hr]
        simp
      · rw [decide_eq_false hr]
        symm
        rw [beq_eq_false_iff_ne]
        intro e
        omega
    rw [hd, IntWalk.i32_left, IntWalk.i64_left]
    clear w64
    clear w32 hd
    go_enter Tryd.func28, Tryd.ntmps28
    go_wp2_with fail
    go_ret
    exact ⟨rfl, HBX.out⟩
  · rw [okIn_1]
    have HB := Lib.hid (fun W => isbuiltin_any n W)
    have hb : decide (0 ≤ n ∧ n ≤ 23) = inB n 0 23 := by unfold inB; simp
    rw [hb]
    go_enter Tryd.func28, Tryd.ntmps28
    go_wp2_with fail
    refine (HB.out _).mono ?_
    rintro e w2 ⟨rfl, rfl⟩
    go_wp2_with fail
    go_ret
    exact ⟨rfl, HBX.out⟩
  · rw [okIn_at m n h]
    by_cases h0 : 0 ≤ n
    · by_cases h1 : n < m
      · rw [decide_eq_true ⟨h0, h1⟩]
        rcases h with rfl | rfl | rfl | rfl | rfl
        all_goals
          go_enter Tryd.func28, Tryd.ntmps28
          go_wp2_with fail
          go_ret
          exact ⟨rfl, HBX.out⟩
      · rw [decide_eq_false (fun h => h1 h.2)]
        rcases h with rfl | rfl | rfl | rfl | rfl
        all_goals
          go_enter Tryd.func28, Tryd.ntmps28
          go_wp2_with fail
          go_ret
          exact ⟨rfl, HBX.out⟩
    · rw [decide_eq_false (fun h => h0 h.1)]
      rcases h with rfl | rfl | rfl | rfl | rfl
      all_goals
        go_enter Tryd.func28, Tryd.ntmps28
        go_wp2_with fail
        go_ret
        exact ⟨rfl, HBX.out⟩
  · rw [okIn_no m n h]
    have hd : decide (n = 0) = (n == 0) := by by_cases hz : n = 0 <;> simp [hz]
    rw [hd]
    rcases h with rfl | rfl | rfl
    all_goals
      go_enter Tryd.func28, Tryd.ntmps28
      go_wp2_with fail
      go_ret
      exact ⟨rfl, HBX.out⟩
  · rw [okIn_other h]
    obtain ⟨q0, q1, q2, q3, q4, q5, q7, q6, q8, q9⟩ := h
    go_enter Tryd.func28, Tryd.ntmps28
    go_wp2_with fail
    go_ret
    exact ⟨rfl, HBX.out⟩
set_option maxRecDepth 100000 in
set_option maxHeartbeats 8000000 in
theorem impl_codeok (xs : List (Int × Int)) (hrg : RngC xs) (v : Value) (w : World) (hr : RdIc w v xs) : Calls Tryd.prog 21 #[v] w fun e w' => e = .returned (.bool (codeOk xs)) ∧ Below w.heap.size w w' := by
  obtain ⟨R, hR⟩ : ∃ R, codeOk xs = R := ⟨_, rfl⟩
  rw [hR]
  have hl62 : xs.length ≤ 4611686018427387904 := by
    obtain ⟨_, _, _, h, _⟩ := hr
    exact h
  obtain ⟨A, cap, rfl⟩ := hr.form
  by_cases h0 : xs.length = 0
  · have HE : Hid (R = false) := Lib.hid (hR.symm.trans (codeOk_len (by omega)))
    rw [h0]
    clear hr hrg hR h0 hl62
    go_enter Tryd.func21, Tryd.ntmps21
    go_wp2_with fail
    go_ret
    exact ⟨by rw [HE.out]; rfl, by go_grown⟩
  by_cases h1 : xs.length ≤ 1500
  · obtain ⟨M, hM⟩ : ∃ M, xs.length = M + 1 := ⟨xs.length - 1, by omega⟩
    have hMl : M < xs.length := by omega
    obtain ⟨a0, hA, la0, p0, -⟩ := hr.item hMl
    subst hA
    have hlast : xs[xs.length - 1]?.getD (0, 0) = xs[M] := by
      rw [hM, Nat.add_sub_cancel, List.getElem?_eq_getElem hMl]
      rfl
    obtain ⟨x, hx⟩ : ∃ x, xs[M] = x := ⟨_, rfl⟩
    rw [hx] at p0 hlast
    obtain ⟨k9, n9⟩ := x
    simp only at p0
    have wz : IntKind.i64.wrap (((M + 1 : Nat) : Int) - 1) = (M : Int) := by rw [show ((M + 1 : Nat) : Int) - 1 = (M : Int) by omega]; exact IntWalk.i64_in _ (by omega)
    have wy : ((M + 1 : Nat) : Int) - 1 = (M : Int) := by omega
    have i1 : (0 : Int) ≤ (M : Int) := by omega
    have i2 : (M : Int) < ((M + 1 : Nat) : Int) := by omega
    have g1 : (((M + 1 : Nat) : Int) == 0) = false := by rw [beq_eq_false_iff_ne]; omega
    have g2 : ¬ (1500 : Int) < ((M + 1 : Nat) : Int) := by omega
    by_cases h9 : k9 = 9
    · subst h9
      have HEND := Lib.hid (fun h => (codeOk_all ⟨by omega, h1⟩ (by rw [hlast]) h).symm.trans hR)
      have HNO := Lib.hid (fun i (hi : i < xs.length) h => hR.symm.trans (codeOk_not (xs := xs) hi h))
      have HST := Lib.hid (fun i (hi : i < xs.length) => all_step (p := okIn xs.length) hi)
      have HRG := Lib.hid hrg
      have HR := Lib.hid (fun W (h : Below w.heap.size w W) => hr.below h)
      have HN := Lib.hid hM
      have q9 : ((9 : Int) != 9) = false := by decide
      have hM2 : M ≤ 1499 := by omega
      rw [hM] at HEND ⊢
      obtain ⟨N, hN⟩ : ∃ N, M + 1 = N := ⟨_, rfl⟩
      have HNN := Lib.hid hN
      rw [hN] at HEND wz wy i2 g1 g2 ⊢
      have hN2 : N ≤ 1500 := by omega
      clear hr hrg hR hl62 h1 hM hMl hx h0 hlast la0 hN
      go_enter Tryd.func21, Tryd.ntmps21
      go_wp2_with fail
      go_loopw [25] (fun vi wr => ∃ i : Nat, vi = .int .i64 i ∧ i ≤ N ∧ Hid (Below w.heap.size w wr) ∧ Hid ((xs.take i).all (okIn xs.length) = true)) (fun vi _ => N - (intOf vi).toNat)
      case atStart => exact ⟨0, rfl, by omega, Lib.hid (Below.refl _ _), Lib.hid (by simp)⟩
      case round =>
        clear p0 wz wy i1 i2 g1 g2
        obtain ⟨i, rfl, hi, HB, HA⟩ := hrel
        by_cases hp : i < N
        · have hp' : i < xs.length := by rw [HN.out, HNN.out]; exact hp
          obtain ⟨a, hae, la, p0, p1⟩ := (HR.out wr HB.out).item hp'
          injection hae with hae
          subst hae
          have HNO2 := Lib.hid (HNO.out i hp')
          have HST2 := Lib.hid (HST.out i hp' HA.out)
          have hsm := HRG.out _ (List.getElem_mem hp')
          rw [HN.out, HNN.out] at HNO2 HST2
          obtain ⟨x, hx⟩ : ∃ x, xs[i] = x := ⟨_, rfl⟩
          rw [hx] at p0 p1 HNO2 HST2 hsm
          obtain ⟨k, n⟩ := x
          simp only at p0 p1 hsm
          have HIO := Lib.hid (fun W => impl_insok k n (N : Int) W)
          have i1 : (0 : Int) ≤ (i : Int) := by omega
          have i2 : (i : Int) < (N : Int) := by omega
          have BX := Lib.hid (HB.out.alloc HB.out.size (.cells #[.int .i64 k, .int .i64 n] 25))
          clear hx la hp' hsm HA
          cases hc : okIn N (k, n) with
          | false =>
            rw [hc] at HIO
            have HE : Hid (R = false) := Lib.hid (HNO2.out hc)
            clear hc HNO2 HST2 HB
            go_wp2_with fail
            refine (HIO.out _).mono ?_
            rintro e w2 ⟨rfl, hb2⟩
            have HB2 := Lib.hid (BX.out.trans (hb2.mono BX.out.size))
            clear hb2 BX
            go_wp2_with fail
            go_ret
            exact ⟨by rw [HE.out]; rfl, HB2.out⟩
          | true =>
            rw [hc] at HIO
            have HA2 : Hid ((xs.take (i + 1)).all (okIn xs.length) = true) := Lib.hid (by have := HST2.out hc; rw [HN.out, HNN.out]; exact this)
            clear hc HNO2 HST2 HB
            go_wp2_with fail
            refine (HIO.out _).mono ?_
            rintro e w2 ⟨rfl, hb2⟩
            have HB2 := Lib.hid (BX.out.trans (hb2.mono BX.out.size))
            clear hb2 BX
            go_wp2_with fail
            go_roundw
            case rel => exact ⟨i + 1, by go_num, by omega, HB2, HA2⟩
            case measure => simp [intOf]; omega
        · obtain rfl : i = N := by omega
          have HE : Hid (R = true) := Lib.hid (by have h := HA.out; have h2 := HEND.out; rw [HN.out, HNN.out] at h; exact (h2 (by exact_mod_cast h)).symm)
          clear HA HR HEND HNO HST
          go_wp2_with fail
          go_ret
          exact ⟨by rw [HE.out]; rfl, HB.out⟩
    · have HE : Hid (R = false) := Lib.hid (hR.symm.trans (codeOk_last (by rw [hlast]; exact h9)))
      have q9 : (k9 != 9) = true := by simpa using h9
      rw [hM]
      clear hr hrg hR hl62 h1 hM hMl hx h0 hlast h9
      go_enter Tryd.func21, Tryd.ntmps21
      go_wp2_with fail
      go_ret
      exact ⟨by rw [HE.out]; rfl, by go_grown⟩
  · have HE : Hid (R = false) := Lib.hid (hR.symm.trans (codeOk_len (by omega)))
    obtain ⟨N, hN⟩ : ∃ N, xs.length = N := ⟨_, rfl⟩
    rw [hN] at h1 h0 hl62 ⊢
    have g1 : ((N : Int) == 0) = false := by rw [beq_eq_false_iff_ne]; omega
    have g2 : (1500 : Int) < (N : Int) := by omega
    clear hr hrg hR h1 h0 hN
    go_enter Tryd.func21, Tryd.ntmps21
    go_wp2_with fail
    go_ret
    exact ⟨by rw [HE.out]; rfl, by go_grown⟩
end Go.Proofs.YthihfgjolioabaaDoor
