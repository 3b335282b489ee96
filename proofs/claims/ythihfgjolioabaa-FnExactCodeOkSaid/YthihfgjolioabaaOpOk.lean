/-
  Whether an op is one: both sides.
-/
import Derived.Test.YthihfgjolioabaaOpMath
import Derived.Test.YthihfgjolioabaaPrimName
import Derived.Test.YthihfgjolioabaaIn
namespace Go.Proofs.Ythihfgjolioabaa
open Go.RowKit Go

theorem primN_empty (n : Int) : (primN n).toList.isEmpty = !decide (0 ≤ n ∧ n ≤ 23) := by
  unfold primN
  by_cases h : 0 ≤ n ∧ n ≤ 23
  · rw [if_pos h, decide_eq_true h]
    obtain ⟨k, rfl⟩ : ∃ k : Nat, n = k := ⟨n.toNat, by omega⟩
    have hk : k < 24 := by omega
    rw [Int.toNat_natCast, ByteArray.toList_eq]
    match k, hk with
    | 0, _ => rfl
    | 1, _ => rfl
    | 2, _ => rfl
    | 3, _ => rfl
    | 4, _ => rfl
    | 5, _ => rfl
    | 6, _ => rfl
    | 7, _ => rfl
    | 8, _ => rfl
    | 9, _ => rfl
    | 10, _ => rfl
    | 11, _ => rfl
    | 12, _ => rfl
    | 13, _ => rfl
    | 14, _ => rfl
    | 15, _ => rfl
    | 16, _ => rfl
    | 17, _ => rfl
    | 18, _ => rfl
    | 19, _ => rfl
    | 20, _ => rfl
    | 21, _ => rfl
    | 22, _ => rfl
    | 23, _ => rfl
    | k + 24, h => omega
  · rw [if_neg h, decide_eq_false h, ByteArray.toList_eq]
    rfl
set_option maxHeartbeats 1000000 in
theorem spec_op (k n : Int) (hn0 : -2147483648 ≤ n) (hn1 : n ≤ 2147483647) (w : World) : Calls Try.prog 53 #[.agg #[.int .i64 k, .int .i32 n]] w fun e w' => e = .returned (.bool (okOp (k, n))) ∧ Below w.heap.size w w' := by
  have HBX := Lib.hid (below_alloc1 w (.cells #[.int .i64 k, .int .i32 n] 75))
  by_cases h0 : k = 0
  · subst h0
    have e0 : ((0 : Int) == 0) = true := by decide
    go_enter Try.func53, Try.ntmps53
    go_wp2
    go_ret
    exact ⟨rfl, HBX.out⟩
  · have q0 : (k == 0) = false := by simp [h0]
    by_cases h1 : k = 1
    · subst h1
      have e1 : ((1 : Int) == 1) = true := by decide
      have hk : okOp (1, n) = decide (0 ≤ n ∧ n ≤ 23) := by unfold okOp; simp
      rw [hk]
      have hem := primN_empty n
      have HP := Lib.hid (fun W => spec_primname n (by omega) (by omega) W)
      generalize primN n = nm at hem HP
      generalize decide (0 ≤ n ∧ n ≤ 23) = b at hem ⊢
      clear hk h0
      go_enter Try.func53, Try.ntmps53
      go_wp2_with fail
      refine (HP.out _).mono ?_
      rintro e w1 ⟨rfl, hb⟩
      have HB2 := Lib.hid (HBX.out.trans (hb.mono HBX.out.size))
      clear hb HP
      cases b with
      | true =>
        go_wp2_with fail
        go_ret
        exact ⟨rfl, HB2.out⟩
      | false =>
        go_wp2_with fail
        go_ret
        exact ⟨rfl, HB2.out⟩
    · have q1 : (k == 1) = false := by simp [h1]
      by_cases h2 : k = 2
      · subst h2
        have e2 : ((2 : Int) == 2) = true := by decide
        have hk : okOp (2, n) = decide (0 ≤ n ∧ n ≤ 23) := by unfold okOp; simp
        rw [hk]
        have HP := Lib.hid (fun W => in_any n 0 23 W)
        unfold inB at HP
        generalize decide (0 ≤ n ∧ n ≤ 23) = b at HP ⊢
        clear hk h0 h1
        go_enter Try.func53, Try.ntmps53
        go_wp2_with fail
        refine (HP.out _).mono ?_
        rintro e w1 ⟨rfl, rfl⟩
        go_wp2_with fail
        go_ret
        exact ⟨rfl, HBX.out⟩
      · have q2 : (k == 2) = false := by simp [h2]
        have hk : okOp (k, n) = (decide (3 ≤ k ∧ k ≤ 8) && decide (n = 0)) := by unfold okOp; simp [h0, h1, h2]
        rw [hk]
        have HP := Lib.hid (fun W => in_any k 3 8 W)
        unfold inB at HP
        have hz : (n == 0) = decide (n = 0) := rfl
        generalize decide (3 ≤ k ∧ k ≤ 8) = b at HP ⊢
        clear hk h0 h1 h2
        cases b with
        | true =>
          go_enter Try.func53, Try.ntmps53
          go_wp2_with fail
          refine (HP.out _).mono ?_
          rintro e w1 ⟨rfl, rfl⟩
          go_wp2_with fail
          go_ret
          exact ⟨rfl, HBX.out⟩
        | false =>
          go_enter Try.func53, Try.ntmps53
          go_wp2_with fail
          refine (HP.out _).mono ?_
          rintro e w1 ⟨rfl, rfl⟩
          go_wp2_with fail
          go_ret
          exact ⟨rfl, HBX.out⟩
set_option maxHeartbeats 1000000 in
theorem impl_opok (k n : Int) (hn0 : -2147483648 ≤ n) (hn1 : n ≤ 2147483647) (w : World) : Calls Try.prog 73 #[.agg #[.int .i64 k, .int .i32 n]] w fun e w' => e = .returned (.bool (okOp (k, n))) ∧ Below w.heap.size w w' := by
  have HBX := Lib.hid (below_alloc1 w (.cells #[.int .i64 k, .int .i32 n] 75))
  by_cases h0 : k = 0
  · subst h0
    have e0 : ((0 : Int) == 0) = true := by decide
    go_enter Try.func73, Try.ntmps73
    go_wp2
    go_ret
    exact ⟨rfl, HBX.out⟩
  · have q0 : (k == 0) = false := by simp [h0]
    by_cases h1 : k = 1
    · subst h1
      have e1 : ((1 : Int) == 1) = true := by decide
      have hk : okOp (1, n) = decide (0 ≤ n ∧ n ≤ 23) := by unfold okOp; simp
      rw [hk]
      have HP := Lib.hid (fun W => isbuiltin_any n W)
      unfold inB at HP
      generalize decide (0 ≤ n ∧ n ≤ 23) = b at HP ⊢
      clear hk h0
      go_enter Try.func73, Try.ntmps73
      go_wp2_with fail
      refine (HP.out _).mono ?_
      rintro e w1 ⟨rfl, rfl⟩
      go_wp2_with fail
      go_ret
      exact ⟨rfl, HBX.out⟩
    · have q1 : (k == 1) = false := by simp [h1]
      by_cases h2 : k = 2
      · subst h2
        have e2 : ((2 : Int) == 2) = true := by decide
        have hk : okOp (2, n) = decide (0 ≤ n ∧ n ≤ 23) := by unfold okOp; simp
        rw [hk]
        clear hk h0 h1
        by_cases g0 : 0 ≤ n
        · by_cases g1 : n ≤ 23
          · rw [decide_eq_true (show 0 ≤ n ∧ n ≤ 23 from ⟨g0, g1⟩)]
            have g2 : n < 24 := by omega
            go_enter Try.func73, Try.ntmps73
            go_wp2
            go_ret
            exact ⟨rfl, HBX.out⟩
          · rw [decide_eq_false (show ¬ (0 ≤ n ∧ n ≤ 23) by omega)]
            have g2 : ¬ n < 24 := by omega
            have g3 : decide (n < 24) = false := by simp; omega
            go_enter Try.func73, Try.ntmps73
            go_wp2
            go_ret
            exact ⟨rfl, HBX.out⟩
        · rw [decide_eq_false (show ¬ (0 ≤ n ∧ n ≤ 23) by omega)]
          have g3 : decide (0 ≤ n) = false := by simp; omega
          go_enter Try.func73, Try.ntmps73
          go_wp2
          go_ret
          exact ⟨rfl, HBX.out⟩
      · have q2 : (k == 2) = false := by simp [h2]
        have hk : okOp (k, n) = (decide (3 ≤ k ∧ k ≤ 8) && decide (n = 0)) := by unfold okOp; simp [h0, h1, h2]
        rw [hk]
        clear hk h0 h1 h2
        by_cases g0 : 3 ≤ k
        · by_cases g1 : k ≤ 8
          · rw [decide_eq_true (show 3 ≤ k ∧ k ≤ 8 from ⟨g0, g1⟩)]
            go_enter Try.func73, Try.ntmps73
            go_wp2
            go_ret
            exact ⟨rfl, HBX.out⟩
          · rw [decide_eq_false (show ¬ (3 ≤ k ∧ k ≤ 8) by omega)]
            have g3 : decide (k ≤ 8) = false := by simp; omega
            go_enter Try.func73, Try.ntmps73
            go_wp2
            go_ret
            exact ⟨rfl, HBX.out⟩
        · rw [decide_eq_false (show ¬ (3 ≤ k ∧ k ≤ 8) by omega)]
          have g3 : decide (3 ≤ k) = false := by simp; omega
          go_enter Try.func73, Try.ntmps73
          go_wp2
          go_ret
          exact ⟨rfl, HBX.out⟩
end Go.Proofs.Ythihfgjolioabaa
