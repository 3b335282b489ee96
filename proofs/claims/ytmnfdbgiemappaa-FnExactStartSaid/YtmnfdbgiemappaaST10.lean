/-
  impl.CodeOk.
  Whether a store is right, whether it has a block; new stores.
  Whether a state is right: the model's answer and the program's.
-/
import Derived.Test.YtmnfdbgiemappaaST5
import Derived.Test.YtmnfdbgiemappaaST2
import Derived.Test.YtmnfdbgiemappaaST9
import Derived.Test.YtmnfdbgiemappaaST1
import Derived.Handy
import Derived.IntWalk
import Derived.Test.YtmnfdbgiemappaaST3
import Derived.Test.YtmnfdbgiemappaaST6
namespace Go.Proofs.Ytmnfdbgiemappaa
open Go.RowKit Go

/-- Steps whose numbers are numbers of 64 bits. -/
def RngC (xs : List (Int × Int)) : Prop := ∀ o ∈ xs, (-9223372036854775808 ≤ o.1 ∧ o.1 ≤ 9223372036854775807) ∧ (-9223372036854775808 ≤ o.2 ∧ o.2 ≤ 9223372036854775807)
theorem kindsC (k : Int) : k = 0 ∨ k = 1 ∨ (k = 2 ∨ k = 3 ∨ k = 4 ∨ k = 5 ∨ k = 7) ∨ (k = 6 ∨ k = 8 ∨ k = 9) ∨ ((k == 0) = false ∧ (k == 1) = false ∧ (k == 2) = false ∧ (k == 3) = false ∧ (k == 4) = false ∧ (k == 5) = false ∧ (k == 7) = false ∧ (k == 6) = false ∧ (k == 8) = false ∧ (k == 9) = false) := by
  simp only [beq_eq_false_iff_ne]
  omega
theorem okIn_other {k n m : Int} (h : (k == 0) = false ∧ (k == 1) = false ∧ (k == 2) = false ∧ (k == 3) = false ∧ (k == 4) = false ∧ (k == 5) = false ∧ (k == 7) = false ∧ (k == 6) = false ∧ (k == 8) = false ∧ (k == 9) = false) : okIn m (k, n) = false := by
  simp only [beq_eq_false_iff_ne] at h
  unfold okIn
  rw [if_neg (by simp only; omega), if_neg (by simp only; omega), if_neg (by simp only; omega), if_neg (by simp only; omega)]
theorem okIn_0 (m n : Int) : okIn m (0, n) = decide (-2147483648 ≤ n ∧ n ≤ 2147483647) := rfl
theorem okIn_1 (m n : Int) : okIn m (1, n) = decide (0 ≤ n ∧ n ≤ 23) := rfl
theorem okIn_at {k : Int} (m n : Int) (h : k = 2 ∨ k = 3 ∨ k = 4 ∨ k = 5 ∨ k = 7) : okIn m (k, n) = decide (0 ≤ n ∧ n < m) := by rcases h with rfl | rfl | rfl | rfl | rfl <;> rfl
theorem okIn_no {k : Int} (m n : Int) (h : k = 6 ∨ k = 8 ∨ k = 9) : okIn m (k, n) = decide (n = 0) := by rcases h with rfl | rfl | rfl <;> rfl
set_option maxRecDepth 100000 in
set_option maxHeartbeats 2000000 in
theorem impl_insok (k n m : Int) (w : World) : Calls Try.prog 65 #[.agg #[.int .i64 k, .int .i64 n], .int .i64 m] w fun e w' => e = .returned (.bool (okIn m (k, n))) ∧ Below w.heap.size w w' := by
  have HBX := Lib.hid (below_alloc1 w (.cells #[.int .i64 k, .int .i64 n] 60))
  rcases kindsC k with rfl | rfl | h | h | h
  · rw [okIn_0]
    have w32 : -2147483648 ≤ IntKind.i32.wrap n ∧ IntKind.i32.wrap n ≤ 2147483647 := by rw [IntKind.wrap_i32]; omega
    have w64 : IntKind.i64.wrap (IntKind.i32.wrap n) = IntKind.i32.wrap n := IntWalk.i64_in _ (by omega)
    have hd : decide (-2147483648 ≤ n ∧ n ≤ 2147483647) = (n == IntKind.i64.wrap (IntKind.i32.wrap n)) := by
      rw [w64]
      by_cases hr : -2147483648 ≤ n ∧ n ≤ 2147483647
      · rw [decide_eq_true hr, IntWalk.i32_in _ hr]
        simp
      · rw [decide_eq_false hr]
        symm
        rw [beq_eq_false_iff_ne]
        intro e
        omega
    rw [hd, IntWalk.i32_left, IntWalk.i64_left]
    clear w64
    clear w32 hd
    go_enter Try.func65, Try.ntmps65
    go_wp2_with fail
    go_ret
    exact ⟨rfl, HBX.out⟩
  · rw [okIn_1]
    have HB := Lib.hid (fun W => isbuiltin_any n W)
    have hb : decide (0 ≤ n ∧ n ≤ 23) = inB n 0 23 := by unfold inB; simp
    rw [hb]
    go_enter Try.func65, Try.ntmps65
    go_wp2_with fail
    refine (HB.out _).mono ?_
    rintro e w2 ⟨rfl, rfl⟩
    go_wp2_with fail
    go_ret
    exact ⟨rfl, HBX.out⟩
  · rw [okIn_at m n h]
    by_cases h0 : 0 ≤ n
    · by_cases h1 : n < m
      · rw [decide_eq_true ⟨h0, h1⟩]
        rcases h with rfl | rfl | rfl | rfl | rfl
        all_goals
          go_enter Try.func65, Try.ntmps65
          go_wp2_with fail
          go_ret
          exact ⟨rfl, HBX.out⟩
      · rw [decide_eq_false (fun h => h1 h.2)]
        rcases h with rfl | rfl | rfl | rfl | rfl
        all_goals
          go_enter Try.func65, Try.ntmps65
          go_wp2_with fail
          go_ret
          exact ⟨rfl, HBX.out⟩
    · rw [decide_eq_false (fun h => h0 h.1)]
      rcases h with rfl | rfl | rfl | rfl | rfl
      all_goals
        go_enter Try.func65, Try.ntmps65
        go_wp2_with fail
        go_ret
        exact ⟨rfl, HBX.out⟩
  · rw [okIn_no m n h]
    have hd : decide (n = 0) = (n == 0) := by by_cases hz : n = 0 <;> simp [hz]
    rw [hd]
    rcases h with rfl | rfl | rfl
    all_goals
      go_enter Try.func65, Try.ntmps65
      go_wp2_with fail
      go_ret
      exact ⟨rfl, HBX.out⟩
  · rw [okIn_other h]
    obtain ⟨q0, q1, q2, q3, q4, q5, q7, q6, q8, q9⟩ := h
    go_enter Try.func65, Try.ntmps65
    go_wp2_with fail
    go_ret
    exact ⟨rfl, HBX.out⟩
set_option maxRecDepth 100000 in
set_option maxHeartbeats 8000000 in
theorem impl_codeok (xs : List (Int × Int)) (hrg : RngC xs) (v : Value) (w : World) (hr : RdIc w v xs) : Calls Try.prog 54 #[v] w fun e w' => e = .returned (.bool (codeOk xs)) ∧ Below w.heap.size w w' := by
  obtain ⟨R, hR⟩ : ∃ R, codeOk xs = R := ⟨_, rfl⟩
  rw [hR]
  have hl62 : xs.length ≤ 4611686018427387904 := by
    obtain ⟨_, _, _, h, _⟩ := hr
    exact h
  obtain ⟨A, cap, rfl⟩ := hr.form
  by_cases h0 : xs.length = 0
  · have HE : Hid (R = false) := Lib.hid (hR.symm.trans (codeOk_len (by omega)))
    rw [h0]
    clear hr hrg hR h0 hl62
    go_enter Try.func54, Try.ntmps54
    go_wp2_with fail
    go_ret
    exact ⟨by rw [HE.out]; rfl, by go_grown⟩
  by_cases h1 : xs.length ≤ 1500
  · obtain ⟨M, hM⟩ : ∃ M, xs.length = M + 1 := ⟨xs.length - 1, by omega⟩
    have hMl : M < xs.length := by omega
    obtain ⟨a0, hA, la0, p0, -⟩ := hr.item hMl
    subst hA
    have hlast : xs[xs.length - 1]?.getD (0, 0) = xs[M] := by
      rw [hM, Nat.add_sub_cancel, List.getElem?_eq_getElem hMl]
      rfl
    obtain ⟨x, hx⟩ : ∃ x, xs[M] = x := ⟨_, rfl⟩
    rw [hx] at p0 hlast
    obtain ⟨k9, n9⟩ := x
    simp only at p0
    have wz : IntKind.i64.wrap (((M + 1 : Nat) : Int) - 1) = (M : Int) := by rw [show ((M + 1 : Nat) : Int) - 1 = (M : Int) by omega]; exact IntWalk.i64_in _ (by omega)
    have wy : ((M + 1 : Nat) : Int) - 1 = (M : Int) := by omega
    have i1 : (0 : Int) ≤ (M : Int) := by omega
    have i2 : (M : Int) < ((M + 1 : Nat) : Int) := by omega
    have g1 : (((M + 1 : Nat) : Int) == 0) = false := by rw [beq_eq_false_iff_ne]; omega
    have g2 : ¬ (1500 : Int) < ((M + 1 : Nat) : Int) := by omega
    by_cases h9 : k9 = 9
    · subst h9
      have HEND := Lib.hid (fun h => (codeOk_all ⟨by omega, h1⟩ (by rw [hlast]) h).symm.trans hR)
      have HNO := Lib.hid (fun i (hi : i < xs.length) h => hR.symm.trans (codeOk_not (xs := xs) hi h))
      have HST := Lib.hid (fun i (hi : i < xs.length) => all_step (p := okIn xs.length) hi)
      have HRG := Lib.hid hrg
      have HR := Lib.hid (fun W (h : Below w.heap.size w W) => hr.below h)
      have HN := Lib.hid hM
      have q9 : ((9 : Int) != 9) = false := by decide
      have hM2 : M ≤ 1499 := by omega
      rw [hM] at HEND ⊢
      obtain ⟨N, hN⟩ : ∃ N, M + 1 = N := ⟨_, rfl⟩
      have HNN := Lib.hid hN
      rw [hN] at HEND wz wy i2 g1 g2 ⊢
      have hN2 : N ≤ 1500 := by omega
      clear hr hrg hR hl62 h1 hM hMl hx h0 hlast la0 hN
      go_enter Try.func54, Try.ntmps54
      go_wp2_with fail
      go_loopw [25] (fun vi wr => ∃ i : Nat, vi = .int .i64 i ∧ i ≤ N ∧ Hid (Below w.heap.size w wr) ∧ Hid ((xs.take i).all (okIn xs.length) = true)) (fun vi _ => N - (intOf vi).toNat)
      case atStart => exact ⟨0, rfl, by omega, Lib.hid (Below.refl _ _), Lib.hid (by simp)⟩
      case round =>
        clear p0 wz wy i1 i2 g1 g2
        obtain ⟨i, rfl, hi, HB, HA⟩ := hrel
        by_cases hp : i < N
        · have hp' : i < xs.length := by rw [HN.out, HNN.out]; exact hp
          obtain ⟨a, hae, la, p0, p1⟩ := (HR.out wr HB.out).item hp'
          injection hae with hae
          subst hae
          have HNO2 := Lib.hid (HNO.out i hp')
          have HST2 := Lib.hid (HST.out i hp' HA.out)
          have hsm := HRG.out _ (List.getElem_mem hp')
          rw [HN.out, HNN.out] at HNO2 HST2
          obtain ⟨x, hx⟩ : ∃ x, xs[i] = x := ⟨_, rfl⟩
          rw [hx] at p0 p1 HNO2 HST2 hsm
          obtain ⟨k, n⟩ := x
          simp only at p0 p1 hsm
          have HIO := Lib.hid (fun W => impl_insok k n (N : Int) W)
          have i1 : (0 : Int) ≤ (i : Int) := by omega
          have i2 : (i : Int) < (N : Int) := by omega
          have BX := Lib.hid (HB.out.alloc HB.out.size (.cells #[.int .i64 k, .int .i64 n] 60))
          clear hx la hp' hsm HA
          cases hc : okIn N (k, n) with
          | false =>
            rw [hc] at HIO
            have HE : Hid (R = false) := Lib.hid (HNO2.out hc)
            clear hc HNO2 HST2 HB
            go_wp2_with fail
            refine (HIO.out _).mono ?_
            rintro e w2 ⟨rfl, hb2⟩
            have HB2 := Lib.hid (BX.out.trans (hb2.mono BX.out.size))
            clear hb2 BX
            go_wp2_with fail
            go_ret
            exact ⟨by rw [HE.out]; rfl, HB2.out⟩
          | true =>
            rw [hc] at HIO
            have HA2 : Hid ((xs.take (i + 1)).all (okIn xs.length) = true) := Lib.hid (by have := HST2.out hc; rw [HN.out, HNN.out]; exact this)
            clear hc HNO2 HST2 HB
            go_wp2_with fail
            refine (HIO.out _).mono ?_
            rintro e w2 ⟨rfl, hb2⟩
            have HB2 := Lib.hid (BX.out.trans (hb2.mono BX.out.size))
            clear hb2 BX
            go_wp2_with fail
            go_roundw
            case rel => exact ⟨i + 1, by go_num, by omega, HB2, HA2⟩
            case measure => simp [intOf]; omega
        · obtain rfl : i = N := by omega
          have HE : Hid (R = true) := Lib.hid (by have h := HA.out; have h2 := HEND.out; rw [HN.out, HNN.out] at h; exact (h2 (by exact_mod_cast h)).symm)
          clear HA HR HEND HNO HST
          go_wp2_with fail
          go_ret
          exact ⟨by rw [HE.out]; rfl, HB.out⟩
    · have HE : Hid (R = false) := Lib.hid (hR.symm.trans (codeOk_last (by rw [hlast]; exact h9)))
      have q9 : (k9 != 9) = true := by simpa using h9
      rw [hM]
      clear hr hrg hR hl62 h1 hM hMl hx h0 hlast h9
      go_enter Try.func54, Try.ntmps54
      go_wp2_with fail
      go_ret
      exact ⟨by rw [HE.out]; rfl, by go_grown⟩
  · have HE : Hid (R = false) := Lib.hid (hR.symm.trans (codeOk_len (by omega)))
    obtain ⟨N, hN⟩ : ∃ N, xs.length = N := ⟨_, rfl⟩
    rw [hN] at h1 h0 hl62 ⊢
    have g1 : ((N : Int) == 0) = false := by rw [beq_eq_false_iff_ne]; omega
    have g2 : (1500 : Int) < (N : Int) := by omega
    clear hr hrg hR h1 h0 hN
    go_enter Try.func54, Try.ntmps54
    go_wp2_with fail
    go_ret
    exact ⟨by rw [HE.out]; rfl, by go_grown⟩
end Go.Proofs.Ytmnfdbgiemappaa

namespace Go.Proofs.Ytmnfdbgiemappaa
open Go.RowKit Go

theorem impl_storeok (A : Option Addr) (n c : Nat) (hn : n ≤ 4611686018427387904) (w : World) : Calls Try.prog 67 #[stA (.slice A n c)] w fun e w' => e = .returned (.bool (storeB n)) ∧ Below w.heap.size w w' := by
  by_cases h1 : n % 64 = 0
  · have i1 : ((n : Int) % 64 == 0) = true := by simp; omega
    by_cases h2 : n ≤ 768
    · have i2 : (n : Int) ≤ 768 := by omega
      have e : storeB n = true := decide_eq_true ⟨h1, h2⟩
      rw [e]
      clear h1 h2 e
      go_enter Try.func67, Try.ntmps67
      go_wp2
      go_ret
      exact ⟨rfl, below_alloc _ _⟩
    · have i2 : ¬ (n : Int) ≤ 768 := by omega
      have e : storeB n = false := decide_eq_false fun h => h2 h.2
      rw [e]
      clear h1 h2 e
      go_enter Try.func67, Try.ntmps67
      go_wp2
      go_ret
      exact ⟨rfl, below_alloc _ _⟩
  · have i1 : ((n : Int) % 64 == 0) = false := by simp; omega
    have e : storeB n = false := decide_eq_false fun h => h1 h.1
    rw [e]
    clear h1 e
    go_enter Try.func67, Try.ntmps67
    go_wp2
    go_ret
    exact ⟨rfl, below_alloc _ _⟩
theorem spec_storeok (A : Option Addr) (n c : Nat) (hn : n ≤ 4611686018427387904) (w : World) : Calls Try.prog 50 #[stA (.slice A n c)] w fun e w' => e = .returned (.bool (storeB n)) ∧ Below w.heap.size w w' := by
  by_cases h1 : n % 64 = 0
  · have i1 : ((n : Int) % 64 == 0) = true := by simp; omega
    by_cases h2 : n ≤ 768
    · have i2 : (n : Int) ≤ 768 := by omega
      have e : storeB n = true := decide_eq_true ⟨h1, h2⟩
      rw [e]
      clear h1 h2 e
      go_enter Try.func50, Try.ntmps50
      go_wp2
      go_ret
      exact ⟨rfl, below_alloc _ _⟩
    · have i2 : ¬ (n : Int) ≤ 768 := by omega
      have e : storeB n = false := decide_eq_false fun h => h2 h.2
      rw [e]
      clear h1 h2 e
      go_enter Try.func50, Try.ntmps50
      go_wp2
      go_ret
      exact ⟨rfl, below_alloc _ _⟩
  · have i1 : ((n : Int) % 64 == 0) = false := by simp; omega
    have e : storeB n = false := decide_eq_false fun h => h1 h.1
    rw [e]
    clear h1 e
    go_enter Try.func50, Try.ntmps50
    go_wp2
    go_ret
    exact ⟨rfl, below_alloc _ _⟩
end Go.Proofs.Ytmnfdbgiemappaa

namespace Go.Proofs.Ytmnfdbgiemappaa
open Go.RowKit Go

theorem RdL.at {w : World} {A : Option Addr} {n cap : Nat} {xs : List Int} (h : RdL w (.slice A n cap) xs) {i : Nat} (hi : i < xs.length) : ∃ a, A = some a ∧ a.block < w.heap.size ∧ w.cell? (a.add i) = some (.int .i64 xs[i]) := by
  obtain ⟨A3, c4, hv4, -, hc4⟩ := h
  injection hv4 with e1 e2 e3
  subst e1 e3
  exact hc4 i hi
theorem RdL.len {w : World} {v : Value} {xs : List Int} (h : RdL w v xs) : xs.length ≤ 4611686018427387904 := by
  obtain ⟨_, _, _, h, _⟩ := h
  exact h
theorem RdL.take {w : World} {A : Option Addr} {n cap : Nat} {xs : List Int} (h : RdL w (.slice A n cap) xs) {k : Nat} (hk : k ≤ xs.length) : RdL w (.slice A k cap) (xs.take k) := by
  have hl := h.len
  have e : (xs.take k).length = k := by simp; omega
  refine ⟨A, cap, by rw [e], by omega, fun i hi => ?_⟩
  obtain ⟨a, h1, h2, h3⟩ := h.at (i := i) (by omega)
  exact ⟨a, h1, h2, by rw [h3]; simp [lv]⟩
/-- Where a number stands, if it does. -/
def IdxEnd (xs : List Int) (x : Int) (w : World) (e : Ending) (w' : World) : Prop := ∃ n : Int, e = .returned (.int .i64 n) ∧ decide (0 ≤ n) = decide (x ∈ xs) ∧ w = w'
theorem not_take_succ {xs : List Int} {x : Int} {i : Nat} (hp : i < xs.length) (h : x ∉ xs.take i) (he : xs[i] ≠ x) : x ∉ xs.take (i + 1) := by
  rw [List.take_succ_eq_append_getElem hp]
  intro hm
  rcases List.mem_append.1 hm with h1 | h1
  · exact h h1
  · exact he (List.mem_singleton.1 h1).symm
set_option maxHeartbeats 1000000 in
theorem index_any (v : Value) (xs : List Int) (x : Int) (w : World) (hr : RdL w v xs) : Calls Try.prog 76 #[v, .int .i64 x] w (IdxEnd xs x w) := by
  obtain ⟨A, cap, rfl⟩ := hr.form
  have hl := hr.len
  have HR := Lib.hid hr
  clear hr
  go_enter Try.func76, Try.ntmps76
  go_wp2
  go_loop [8] (fun vi => ∃ i : Nat, vi = .int .i64 i ∧ i ≤ xs.length ∧ Hid (x ∉ xs.take i)) (fun vi => xs.length - (intOf vi).toNat)
  case atStart => exact ⟨0, rfl, by omega, Lib.hid (by simp)⟩
  case round =>
    obtain ⟨i, rfl, hi, HN⟩ := hrel
    by_cases hp : i < xs.length
    · obtain ⟨a, rfl, -, hc⟩ := HR.out.at hp
      have i1 : (0 : Int) ≤ (i : Int) := by omega
      have i2 : (i : Int) < (xs.length : Int) := by omega
      obtain ⟨y, hy⟩ : ∃ y, xs[i] = y := ⟨_, rfl⟩
      rw [hy] at hc
      by_cases he : y = x
      · have he' : (x == y) = true := by simp [he]
        have HD : Hid (decide (0 ≤ (i : Int)) = decide (x ∈ xs)) := Lib.hid (by rw [decide_eq_true i1, decide_eq_true (by rw [← he, ← hy]; exact List.getElem_mem _)])
        clear he hy
        go_wp2
        go_ret
        exact ⟨_, rfl, HD.out, rfl⟩
      · have he' : (x == y) = false := by simp; exact fun e => he e.symm
        have HN2 : Hid (x ∉ xs.take (i + 1)) := Lib.hid (not_take_succ hp HN.out (by rw [hy]; exact he))
        clear he hy
        go_wp2
        go_round
        case rel => exact ⟨i + 1, by go_num, by omega, HN2⟩
        case measure => simp [intOf]; omega
    · have HD : Hid (decide (0 ≤ (-1 : Int)) = decide (x ∈ xs)) := Lib.hid (by
        have h := HN.out
        rw [List.take_of_length_le (by omega)] at h
        rw [decide_eq_false h]
        rfl)
      go_wp2
      go_ret
      exact ⟨_, rfl, HD.out, rfl⟩
theorem contains_any (v : Value) (xs : List Int) (x : Int) (w : World) (hr : RdL w v xs) : Calls Try.prog 75 #[v, .int .i64 x] w fun e w' => e = .returned (.bool (decide (x ∈ xs))) ∧ w = w' := by
  have HI := Lib.hid (index_any v xs x w hr)
  obtain ⟨A, cap, rfl⟩ := hr.form
  obtain ⟨q, hq⟩ : ∃ q, decide (x ∈ xs) = q := ⟨_, rfl⟩
  unfold IdxEnd at HI
  rw [hq] at HI ⊢
  clear hr hq
  go_enter Try.func75, Try.ntmps75
  go_wp2_with fail
  refine HI.out.mono ?_
  rintro e w' ⟨n, rfl, hd, rfl⟩
  have HD := Lib.hid hd
  clear hd HI
  go_wp2_with fail
  go_ret
  exact ⟨by rw [← HD.out]; rfl, rfl⟩

theorem kindsB_no {r : List (Int × Int)} {i : Nat} (h : i < r.length) (hb : ¬ (0 ≤ (r[i]).1 ∧ (r[i]).1 ≤ 2)) : kindsB r = false := decide_eq_false fun e => hb (e i h)
set_option maxHeartbeats 1000000 in
theorem impl_slotsok (v : Value) (xs : List (Int × Int)) (w : World) (hr : RdS w v xs) : Calls Try.prog 66 #[v] w fun e w' => e = .returned (.bool (decide (xs.length ≤ 24) && kindsB xs)) ∧ Below w.heap.size w w' := by
  obtain ⟨A, cap, rfl⟩ := hr.form
  have hl : xs.length ≤ 4611686018427387904 := by obtain ⟨_, _, _, h, _⟩ := hr; exact h
  have HR := Lib.hid (fun W (h : Below w.heap.size w W) => hr.below h)
  clear hr
  by_cases h24 : xs.length ≤ 24
  · have h24' : ¬ (24 : Int) < (xs.length : Int) := by omega
    rw [decide_eq_true h24, Bool.true_and]
    go_enter Try.func66, Try.ntmps66
    go_wp2
    go_loopw [10] (fun vi wr => ∃ i : Nat, vi = .int .i64 i ∧ i ≤ xs.length ∧ Hid (∀ j (h : j < xs.length), j < i → 0 ≤ (xs[j]).1 ∧ (xs[j]).1 ≤ 2) ∧ Hid (Below w.heap.size w wr)) (fun vi _ => xs.length - (intOf vi).toNat)
    case atStart => exact ⟨0, rfl, by omega, Lib.hid (fun j _ h => by omega), Lib.hid (Below.refl _ _)⟩
    case round =>
      obtain ⟨i, rfl, hi, HN, HB⟩ := hrel
      by_cases hp : i < xs.length
      · obtain ⟨a, rfl, la, p0, p1⟩ := (HR.out wr HB.out).item hp
        have i1 : (0 : Int) ≤ (i : Int) := by omega
        have i2 : (i : Int) < (xs.length : Int) := by omega
        obtain ⟨y, hy⟩ : ∃ y, xs[i] = y := ⟨_, rfl⟩
        obtain ⟨k, z⟩ := y
        rw [hy] at p0 p1
        have HB2 := Lib.hid (HB.out.alloc HB.out.size (.cells #[.int .i64 k, .int .i32 z] 58))
        by_cases hk : 0 ≤ k ∧ k ≤ 2
        · obtain ⟨k0, k1⟩ := hk
          have q0 : ¬ k < 0 := by omega
          have q0' : decide (k < 0) = false := by simpa using k0
          have q1 : ¬ 2 < k := by omega
          have HN2 : Hid (∀ j (h : j < xs.length), j < i + 1 → 0 ≤ (xs[j]).1 ∧ (xs[j]).1 ≤ 2) := Lib.hid fun j hj h2 => by
            rcases Nat.lt_or_ge j i with h3 | h3
            · exact HN.out j hj h3
            · obtain rfl : j = i := by omega
              rw [hy]
              exact ⟨k0, k1⟩
          clear hy HN
          go_wp2
          go_roundw
          case rel => exact ⟨i + 1, by go_num, by omega, HN2, HB2⟩
          case measure => simp [intOf]; omega
        · have HK := Lib.hid (kindsB_no (r := xs) hp (by rw [hy]; exact hk))
          by_cases k0 : 0 ≤ k
          · have q0 : ¬ k < 0 := by omega
            have q0' : decide (k < 0) = false := by simpa using k0
            have q1 : 2 < k := by omega
            clear hy HN hk
            go_wp2
            go_ret
            exact ⟨by rw [HK.out]; rfl, HB2.out⟩
          · have q0 : k < 0 := by omega
            have q0' : decide (k < 0) = true := by simpa using q0
            clear hy HN hk
            go_wp2
            go_ret
            exact ⟨by rw [HK.out]; rfl, HB2.out⟩
      · have HK : Hid (kindsB xs = true) := Lib.hid (decide_eq_true fun j hj => HN.out j hj (by omega))
        go_wp2
        go_ret
        exact ⟨by rw [HK.out]; rfl, HB.out⟩
  · have h24' : (24 : Int) < (xs.length : Int) := by omega
    rw [decide_eq_false h24, Bool.false_and]
    clear h24
    go_enter Try.func66, Try.ntmps66
    go_wp2
    go_ret
    exact ⟨rfl, Below.refl _ _⟩

theorem varsB_no {v : List Int} {n i : Nat} (h : i < v.length) (hb : ¬ ((0 ≤ v[i] ∧ v[i] < (n : Int)) ∧ v[i] ∉ v.take i)) : varsB v n = false := decide_eq_false fun e => hb (e i h)
set_option maxRecDepth 100000 in
set_option maxHeartbeats 4000000 in
theorem impl_varsok (d r m c v o i : Value) (S : S8) (w : World) (hr : RdSt w d r m c v o i S) :
    Calls Try.prog 68 #[.agg #[d, r, .int .i32 S.a, m, c, v, o, i, .int .i64 S.fault, .int .i64 S.fuel]] w fun e w' => e = .returned (.bool (decide (S.vars.length ≤ 20) && varsB S.vars S.cells.length)) ∧ Below w.heap.size w w' := by
  have hform := hr.form
  obtain ⟨⟨A0, a0, rfl⟩, ⟨A1, a1, rfl⟩, ⟨A2, a2, rfl⟩, ⟨A3, a3, rfl⟩, ⟨A4, a4, rfl⟩, ⟨A5, a5, rfl⟩, ⟨A6, a6, rfl⟩⟩ := hform
  have hl := hr.v.len
  have HR := Lib.hid (fun W (h : Below w.heap.size w W) => (hr.below h).v)
  have hcap : S.vars.length ≤ a4 := hr.k _ _ _ rfl
  clear hr
  generalize S.data.length = n0
  generalize S.ret.length = n1
  generalize S.mem.length = n2
  generalize S.out.length = n5
  generalize S.inp.length = n6
  generalize S.cells.length = n3
  generalize S.vars = vs at hl HR hcap ⊢
  generalize S.a = z1
  generalize S.fault = z2
  generalize S.fuel = z3
  by_cases h20 : vs.length ≤ 20
  · have h20' : ¬ (20 : Int) < (vs.length : Int) := by omega
    rw [decide_eq_true h20, Bool.true_and]
    have HB0 := Lib.hid (below_alloc w (.cells #[.slice A0 n0 a0, .slice A1 n1 a1, .int .i32 z1, .slice A2 n2 a2, .slice A3 n3 a3, .slice A4 vs.length a4, .slice A5 n5 a5, .slice A6 n6 a6, .int .i64 z2, .int .i64 z3] 34))
    have HV := Lib.hid (HR.out _ HB0.out)
    clear HR
    go_enter Try.func68, Try.ntmps68
    go_wp2
    go_loop [12] (fun vi => ∃ i : Nat, vi = .int .i64 i ∧ i ≤ vs.length ∧ Hid (∀ j (h : j < vs.length), j < i → (0 ≤ vs[j] ∧ vs[j] < (n3 : Int)) ∧ vs[j] ∉ vs.take j)) (fun vi => vs.length - (intOf vi).toNat)
    case atStart => exact ⟨0, rfl, by omega, Lib.hid (fun j _ h => by omega)⟩
    case round =>
      obtain ⟨i, rfl, hi, HN⟩ := hrel
      by_cases hp : i < vs.length
      · obtain ⟨a, rfl, la, p0⟩ := HV.out.at hp
        have HC := Lib.hid (HV.out.take (k := i) (by omega))
        have hic : i ≤ a4 := by omega
        have hic2 : (i : Int) ≤ (a4 : Int) := by omega
        have i1 : (0 : Int) ≤ (i : Int) := by omega
        have i2 : (i : Int) < (vs.length : Int) := by omega
        obtain ⟨x, hx⟩ : ∃ x, vs[i] = x := ⟨_, rfl⟩
        rw [hx] at p0
        by_cases x0 : 0 ≤ x
        · have q0 : ¬ x < 0 := by omega
          have q0' : decide (x < 0) = false := by simpa using x0
          by_cases x1 : x < (n3 : Int)
          · have q1 : ¬ (n3 : Int) ≤ x := by omega
            have q1' : decide ((n3 : Int) ≤ x) = false := by simpa using x1
            by_cases x2 : x ∈ vs.take i
            · have HK := Lib.hid (varsB_no (n := n3) hp (fun h => h.2 (by rw [hx]; exact x2)))
              have HCC := Lib.hid (contains_any _ _ x _ HC.out)
              rw [decide_eq_true x2] at HCC
              clear hx HN x2 x0 x1
              go_wp2_with fail
              refine HCC.out.mono ?_
              rintro e w' ⟨rfl, rfl⟩
              go_wp2_with fail
              go_ret
              exact ⟨by rw [HK.out]; rfl, HB0.out⟩
            · have HN2 : Hid (∀ j (h : j < vs.length), j < i + 1 → (0 ≤ vs[j] ∧ vs[j] < (n3 : Int)) ∧ vs[j] ∉ vs.take j) := Lib.hid fun j hj h2 => by
                rcases Nat.lt_or_ge j i with h3 | h3
                · exact HN.out j hj h3
                · obtain rfl : j = i := by omega
                  rw [hx]
                  exact ⟨⟨x0, x1⟩, x2⟩
              have HCC := Lib.hid (contains_any _ _ x _ HC.out)
              rw [decide_eq_false x2] at HCC
              clear hx HN x2 x0 x1
              go_wp2_with fail
              refine HCC.out.mono ?_
              rintro e w' ⟨rfl, rfl⟩
              go_wp2_with fail
              go_round
              case rel => exact ⟨i + 1, by go_num, by omega, HN2⟩
              case measure => simp [intOf]; omega
          · have q1 : (n3 : Int) ≤ x := by omega
            have q1' : decide ((n3 : Int) ≤ x) = true := by simpa using q1
            have HK := Lib.hid (varsB_no (n := n3) hp (fun h => x1 (by rw [← hx]; exact h.1.2)))
            clear hx HN x0 x1
            go_wp2
            go_ret
            exact ⟨by rw [HK.out]; rfl, HB0.out⟩
        · have q0 : x < 0 := by omega
          have q0' : decide (x < 0) = true := by simpa using q0
          have HK := Lib.hid (varsB_no (n := n3) hp (fun h => x0 (by rw [← hx]; exact h.1.1)))
          clear hx HN x0
          go_wp2
          go_ret
          exact ⟨by rw [HK.out]; rfl, HB0.out⟩
      · have HK : Hid (varsB vs n3 = true) := Lib.hid (decide_eq_true fun j hj => HN.out j hj (by omega))
        go_wp2
        go_ret
        exact ⟨by rw [HK.out]; rfl, HB0.out⟩
  · have h20' : (20 : Int) < (vs.length : Int) := by omega
    rw [decide_eq_false h20, Bool.false_and]
    clear h20
    go_enter Try.func68, Try.ntmps68
    go_wp2
    go_ret
    exact ⟨rfl, below_alloc _ _⟩
end Go.Proofs.Ytmnfdbgiemappaa
