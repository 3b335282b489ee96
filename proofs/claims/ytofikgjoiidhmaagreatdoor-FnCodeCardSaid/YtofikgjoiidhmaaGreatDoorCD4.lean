/-
  spec.l09Open: what a body leaves open.
  Whether an op is one: both sides.
  spec.ShapeOk.
  spec.l09Trees, spec.TreeOf.
  spec.l09Flat, spec.FlatOf.
  Ops, bodies are drawn.
  Bodies are drawn.
-/
import Derived.Test.YtofikgjoiidhmaaGreatDoorCD2
import Derived.Test.YtofikgjoiidhmaaGreatDoorCD3
import Derived.IntWalk
import Derived.Test.YtofikgjoiidhmaaGreatDoorCD1
import Derived.Deep.RegionHeld3
import Derived.Handy
import Derived.Deep.Cut
namespace Go.Proofs.YtofikgjoiidhmaaGreatDoor
open Go.RowKit Go

theorem own_prefixL {w : World} {lo sz : Nat} {e : TypeId} {A : Option Addr} {N cap n : Nat} {xs : List Value} (h : w.ownsRow lo e sz (.slice A N cap) N xs) (hn : n ≤ N) : w.ownsRow lo e sz (.slice A n cap) n (xs.take (n * sz)) := by
  have hl := h.1
  have hm := Nat.mul_le_mul_right sz hn
  refine ⟨by rw [List.length_take]; omega, ?_⟩
  rcases h.2 with ⟨e1, h0⟩ | ⟨g, cp, cur, e1, hb, hg, hnc, hm2, hsz, ht⟩
  · injection e1 with e1 e2 e3
    subst e1 e3
    exact .inl ⟨by rw [show n = 0 by omega], by omega⟩
  · injection e1 with e1 e2 e3
    subst e1 e3
    refine .inr ⟨g, cap, cur, rfl, hb, hg, by omega, hm2, hsz, ?_⟩
    rw [← ht, List.take_take]
    congr 1
    omega
/-- What l09Open tells. -/
def OpenEnd (xs : List (Int × Int)) (w : World) (e : Ending) (w' : World) : Prop :=
  (∃ st v, openG xs [] = some st ∧ e = .returned (.tuple #[v, .bool true]) ∧ (∃ A cap, v = .slice A st.length cap) ∧ Below w.heap.size w w') ∨ (openG xs [] = none ∧ e = .returned (.tuple #[.slice none 0 0, .bool false]) ∧ Below w.heap.size w w')
theorem openG_len : ∀ (xs : List (Int × Int)) (st st2 : List Int), openG xs st = some st2 → st2.length ≤ st.length + xs.length := by
  intro xs
  induction xs with
  | nil => intro st st2 h; simp [openG] at h; simp [h]
  | cons o r ih =>
    intro st st2 h
    unfold openG at h
    split at h
    · have := ih _ _ h; simp at this ⊢; omega
    · split at h
      · split at h
        · cases h
        · split at h
          · have := ih _ _ h; simp at this ⊢; omega
          · cases h
      · have := ih _ _ h; simp at this ⊢; omega
theorem open_push {o : Int × Int} {r : List (Int × Int)} {st : List Int} (h : o.1 = 3 ∨ o.1 = 4 ∨ o.1 = 6) : openG (o :: r) st = openG r (st ++ [o.1]) := by rw [openG, if_pos h]
theorem open_skip {o : Int × Int} {r : List (Int × Int)} {st : List Int} (h : ¬ (o.1 = 3 ∨ o.1 = 4 ∨ o.1 = 6)) (h2 : ¬ (o.1 = 5 ∨ o.1 = 7)) : openG (o :: r) st = openG r st := by rw [openG, if_neg h, if_neg h2]
theorem open_none {o : Int × Int} {r : List (Int × Int)} (h2 : o.1 = 5 ∨ o.1 = 7) : openG (o :: r) [] = none := by rw [openG, if_neg (by omega), if_pos h2]; rfl
theorem open_pop {o : Int × Int} {r : List (Int × Int)} {st : List Int} {k : Int} (h2 : o.1 = 5 ∨ o.1 = 7) : openG (o :: r) (st ++ [k]) = if (k = 6 ↔ o.1 = 7) then openG r st else none := by
  rw [openG, if_neg (by omega), if_pos h2]
  simp
set_option maxRecDepth 100000 in
set_option maxHeartbeats 4000000 in
theorem spec_open (xs : List (Int × Int)) (hl : xs.length ≤ 60) (v : Value) (w : World) (hr : RdS w v xs) : Calls Tryz.prog 79 #[v] w (OpenEnd xs w) := by
  obtain ⟨A, cap, rfl⟩ := hr.form
  obtain ⟨i0, hi0, hz0, hz1, hz2⟩ := info_parts infoL
  obtain ⟨R, hR⟩ : ∃ R, openG xs [] = R := ⟨_, rfl⟩
  unfold OpenEnd
  rw [hR]
  obtain ⟨N, hN⟩ : ∃ N, xs.length = N := ⟨_, rfl⟩
  have hN60 : N ≤ 60 := by omega
  have HR := Lib.hid (fun W (h : Below w.heap.size w W) => hr.below h)
  have HRR := Lib.hid hR
  have HN := Lib.hid hN
  rw [hN]
  have hb0 := below_alloc1 w (.cells #[] 3)
  clear hr hR hN hl
  go_enter Tryz.func79, Tryz.ntmps79
  go_wp2_with fail
  go_loopw [4, 5] (fun vo vi wr => ∃ (i : Nat) (st : List Int), vi = .int .i64 i ∧ i ≤ N ∧ st.length ≤ i ∧ Hid (Below w.heap.size w wr) ∧ Hid (openG (xs.drop i) st = R) ∧ wr.ownsRow w.heap.size 3 1 vo st.length (st.map lv)) (fun _ vi _ => N - (intOf vi).toNat)
  case atStart => exact ⟨0, [], rfl, by omega, by simp, Lib.hid hb0, HRR, own_empty w _⟩
  case round =>
    obtain ⟨i, st, rfl, hi, hst, HB, HO, ho⟩ := hrel
    obtain ⟨D, dc, rfl⟩ := own_formS ho
    clear hb0 HRR
    by_cases hp : i < N
    · obtain ⟨a, rfl, la, p0, p1⟩ := (HR.out wr HB.out).item (i := i) (by rw [HN.out]; exact hp)
      obtain ⟨x, hx⟩ : ∃ x, xs[i]'(by rw [HN.out]; exact hp) = x := ⟨_, rfl⟩
      obtain ⟨k, n⟩ := x
      have hd : xs.drop i = (k, n) :: xs.drop (i + 1) := by rw [List.drop_eq_getElem_cons (by rw [HN.out]; exact hp), hx]
      rw [hx] at p0
      rw [hd] at HO
      have i1 : (0 : Int) ≤ (i : Int) := by omega
      have i2 : (i : Int) < (N : Int) := by omega
      clear hx hd p1 la
      by_cases h3 : k = 3 ∨ k = 4 ∨ k = 6
      · rw [open_push h3] at HO
        have HO2 := Lib.hid ho
        have hsz := HB.out.size
        clear ho
        rcases h3 with rfl | rfl | rfl
        all_goals
          go_wp2_with (at_builtin; refine wpList_append_own _ rfl _ _ 28 rfl w.heap.size 3 i0 (.int .i64 0) 1 8 Tryz.underlying28 hi0 hz0 hz1 hz2 rfl (by decide) _ _ _ rfl (HO2.out.alloc _) ⟨wr.heap.size, 0, none⟩ 1 1 [.int .i64 _] rfl rfl (cell_one_new _ _ _) (by simp [Value.oneCell']) (by unfold maxLen; omega) (by omega) (by simp; omega) ?_; intro v2 w9 hown9 hgr9 hif; clear hif)
          have HB9 : Hid (Below w.heap.size w w9) := Lib.hid ((HB.out.alloc HB.out.size _).grown hgr9 (by simp; omega) (fun k hk => by have := own_lt HO2.out k hk; omega))
          have HR9 := Lib.hid hown9
          clear hown9 hgr9
          go_roundw
          case rel => exact ⟨i + 1, _, by go_num, by omega, by rw [List.length_append]; simp; omega, HB9, HO, by rw [List.length_append, List.map_append]; exact HR9.out⟩
          case measure => simp [intOf]; omega
      by_cases h5 : k = 5 ∨ k = 7
      · rcases List.eq_nil_or_concat st with rfl | ⟨l, q, rfl⟩
        · rw [open_none h5] at HO
          have HE : Hid (R = none) := Lib.hid HO.out.symm
          clear ho HO
          simp only [List.length_nil]
          rcases h5 with rfl | rfl
          all_goals
            go_wp2_with fail
            go_ret2
            exact .inr ⟨HE.out, rfl, HB.out⟩
        · simp only [List.concat_eq_append] at hst ho HO ⊢
          have hm : (l ++ [q]).length = l.length + 1 := by simp
          obtain ⟨m, hm2⟩ : ∃ m, l.length = m := ⟨_, rfl⟩
          rw [hm2] at hm
          rw [hm] at ho hst ⊢
          rw [open_pop h5] at HO
          have hgs : ∃ g, D = some ⟨g, 0, none⟩ ∧ m + 1 ≤ dc := by
            rcases ho.2 with ⟨e, h0⟩ | ⟨g, cp, cur, e, hb, hg, hnc, -⟩
            · omega
            · injection e with e1 e2 e3
              exact ⟨g, e1, by omega⟩
          obtain ⟨g, rfl, hdc⟩ := hgs
          have c0 : wr.cell? ⟨g, m, none⟩ = some (.int .i64 q) := by
            rw [ho.cellAt m (by omega), List.map_append, List.getElem?_append_right (by simp [hm2]), List.length_map, hm2, Nat.sub_self]
            rfl
          have hpre := own_prefixL (n := m) ho (by omega)
          have e0 : ((l ++ [q]).map lv).take (m * 1) = l.map lv := by rw [Nat.mul_one, List.map_append, List.take_append_of_le_length (by simp [hm2]), List.take_of_length_le (by simp [hm2])]
          rw [e0] at hpre
          have HP := Lib.hid hpre
          have hkk : m ≤ 1000 := by omega
          have j1 : (0 : Int) ≤ (m : Int) := by omega
          have j2 : (m : Int) < (m : Int) + 1 := by omega
          have wz : IntKind.i64.wrap ((m : Int) + 1 - 1) = (m : Int) := by rw [show (m : Int) + 1 - 1 = (m : Int) by omega]; exact IntWalk.i64_in _ (by omega)
          have wy : (m : Int) + 1 - 1 = (m : Int) := by omega
          have wk : IntKind.i64.wrap (m : Int) = (m : Int) := IntWalk.i64_in _ (by omega)
          have hle : m ≤ dc := by omega
          have hn0 : ((m : Int) + 1 == 0) = false := by simp; omega
          have HL := Lib.hid hm2
          clear hpre e0 ho hdc hm hm2
          by_cases hq : q = 6
          · subst hq
            rcases h5 with rfl | rfl
            · have HE : Hid (R = none) := Lib.hid (by rw [← HO.out]; rfl)
              clear HO HP
              go_wp2_with fail
              go_ret2
              exact .inr ⟨HE.out, rfl, HB.out⟩
            · have HO3 : Hid (openG (List.drop (i + 1) xs) l = R) := Lib.hid HO.out
              clear HO
              go_wp2_with fail
              go_roundw
              case rel => exact ⟨i + 1, l, by go_num, by omega, by have := HL.out; omega, HB, HO3, by rw [HL.out]; exact HP.out⟩
              case measure => simp [intOf]; omega
          · have q6 : (q == 6) = false := by simpa using hq
            rcases h5 with rfl | rfl
            · have HO3 : Hid (openG (List.drop (i + 1) xs) l = R) := Lib.hid (by rw [← HO.out, if_pos (by simp; omega)])
              clear HO hq
              go_wp2_with fail
              go_roundw
              case rel => exact ⟨i + 1, l, by go_num, by omega, by have := HL.out; omega, HB, HO3, by rw [HL.out]; exact HP.out⟩
              case measure => simp [intOf]; omega
            · have HE : Hid (R = none) := Lib.hid (by rw [← HO.out, if_neg (by simp; omega)])
              clear HO HP hq
              go_wp2_with fail
              go_ret2
              exact .inr ⟨HE.out, rfl, HB.out⟩
      · rw [open_skip h3 h5] at HO
        have q3 : (k == 3) = false := by simp; omega
        have q4 : (k == 4) = false := by simp; omega
        have q6 : (k == 6) = false := by simp; omega
        have q5 : (k == 5) = false := by simp; omega
        have q7 : (k == 7) = false := by simp; omega
        have HO2 := Lib.hid ho
        clear ho h3 h5
        go_wp2_with fail
        go_roundw
        case rel => exact ⟨i + 1, st, by go_num, by omega, by omega, HB, HO, HO2.out⟩
        case measure => simp [intOf]; omega
    · obtain rfl : i = N := by omega
      have HE : Hid (R = some st) := Lib.hid (by have := HO.out; rw [List.drop_of_length_le (by rw [HN.out]; exact Nat.le_refl _)] at this; exact this.symm)
      clear HO ho
      go_wp2_with fail
      go_ret2
      exact .inl ⟨st, _, HE.out, rfl, ⟨_, _, rfl⟩, HB.out⟩
end Go.Proofs.YtofikgjoiidhmaaGreatDoor

namespace Go.Proofs.YtofikgjoiidhmaaGreatDoor
open Go.RowKit Go

theorem primN_empty (n : Int) : (primN n).toList.isEmpty = !decide (0 ≤ n ∧ n ≤ 23) := by
  unfold primN
  by_cases h : 0 ≤ n ∧ n ≤ 23
  · rw [if_pos h, decide_eq_true h]
    obtain ⟨k, rfl⟩ : ∃ k : Nat, n = k := ⟨n.toNat, by omega⟩
    have hk : k < 24 := by omega
    rw [Int.toNat_natCast, ByteArray.toList_eq]
    match k, hk with
    | 0, _ => rfl
    | 1, _ => rfl
    | 2, _ => rfl
    | 3, _ => rfl
    | 4, _ => rfl
    | 5, _ => rfl
    | 6, _ => rfl
    | 7, _ => rfl
    | 8, _ => rfl
    | 9, _ => rfl
    | 10, _ => rfl
    | 11, _ => rfl
    | 12, _ => rfl
    | 13, _ => rfl
    | 14, _ => rfl
    | 15, _ => rfl
    | 16, _ => rfl
    | 17, _ => rfl
    | 18, _ => rfl
    | 19, _ => rfl
    | 20, _ => rfl
    | 21, _ => rfl
    | 22, _ => rfl
    | 23, _ => rfl
    | k + 24, h => omega
  · rw [if_neg h, decide_eq_false h, ByteArray.toList_eq]
    rfl
set_option maxHeartbeats 1000000 in
theorem spec_op (k n : Int) (hn0 : -2147483648 ≤ n) (hn1 : n ≤ 2147483647) (w : World) : Calls Tryz.prog 78 #[.agg #[.int .i64 k, .int .i32 n]] w fun e w' => e = .returned (.bool (okOp (k, n))) ∧ Below w.heap.size w w' := by
  have HBX := Lib.hid (below_alloc1 w (.cells #[.int .i64 k, .int .i32 n] 70))
  by_cases h0 : k = 0
  · subst h0
    have e0 : ((0 : Int) == 0) = true := by decide
    go_enter Tryz.func78, Tryz.ntmps78
    go_wp2
    go_ret
    exact ⟨rfl, HBX.out⟩
  · have q0 : (k == 0) = false := by simp [h0]
    by_cases h1 : k = 1
    · subst h1
      have e1 : ((1 : Int) == 1) = true := by decide
      have hk : okOp (1, n) = decide (0 ≤ n ∧ n ≤ 23) := by unfold okOp; simp
      rw [hk]
      have hem := primN_empty n
      have HP := Lib.hid (fun W => spec_primname n (by omega) (by omega) W)
      generalize primN n = nm at hem HP
      generalize decide (0 ≤ n ∧ n ≤ 23) = b at hem ⊢
      clear hk h0
      go_enter Tryz.func78, Tryz.ntmps78
      go_wp2_with fail
      refine (HP.out _).mono ?_
      rintro e w1 ⟨rfl, hb⟩
      have HB2 := Lib.hid (HBX.out.trans (hb.mono HBX.out.size))
      clear hb HP
      cases b with
      | true =>
        go_wp2_with fail
        go_ret
        exact ⟨rfl, HB2.out⟩
      | false =>
        go_wp2_with fail
        go_ret
        exact ⟨rfl, HB2.out⟩
    · have q1 : (k == 1) = false := by simp [h1]
      by_cases h2 : k = 2
      · subst h2
        have e2 : ((2 : Int) == 2) = true := by decide
        have hk : okOp (2, n) = decide (0 ≤ n ∧ n ≤ 23) := by unfold okOp; simp
        rw [hk]
        have HP := Lib.hid (fun W => in_any n 0 23 W)
        unfold inB at HP
        generalize decide (0 ≤ n ∧ n ≤ 23) = b at HP ⊢
        clear hk h0 h1
        go_enter Tryz.func78, Tryz.ntmps78
        go_wp2_with fail
        refine (HP.out _).mono ?_
        rintro e w1 ⟨rfl, rfl⟩
        go_wp2_with fail
        go_ret
        exact ⟨rfl, HBX.out⟩
      · have q2 : (k == 2) = false := by simp [h2]
        have hk : okOp (k, n) = (decide (3 ≤ k ∧ k ≤ 8) && decide (n = 0)) := by unfold okOp; simp [h0, h1, h2]
        rw [hk]
        have HP := Lib.hid (fun W => in_any k 3 8 W)
        unfold inB at HP
        have hz : (n == 0) = decide (n = 0) := rfl
        generalize decide (3 ≤ k ∧ k ≤ 8) = b at HP ⊢
        clear hk h0 h1 h2
        cases b with
        | true =>
          go_enter Tryz.func78, Tryz.ntmps78
          go_wp2_with fail
          refine (HP.out _).mono ?_
          rintro e w1 ⟨rfl, rfl⟩
          go_wp2_with fail
          go_ret
          exact ⟨rfl, HBX.out⟩
        | false =>
          go_enter Tryz.func78, Tryz.ntmps78
          go_wp2_with fail
          refine (HP.out _).mono ?_
          rintro e w1 ⟨rfl, rfl⟩
          go_wp2_with fail
          go_ret
          exact ⟨rfl, HBX.out⟩
set_option maxHeartbeats 1000000 in
theorem impl_opok (k n : Int) (hn0 : -2147483648 ≤ n) (hn1 : n ≤ 2147483647) (w : World) : Calls Tryz.prog 168 #[.agg #[.int .i64 k, .int .i32 n]] w fun e w' => e = .returned (.bool (okOp (k, n))) ∧ Below w.heap.size w w' := by
  have HBX := Lib.hid (below_alloc1 w (.cells #[.int .i64 k, .int .i32 n] 70))
  by_cases h0 : k = 0
  · subst h0
    have e0 : ((0 : Int) == 0) = true := by decide
    go_enter Tryz.func168, Tryz.ntmps168
    go_wp2
    go_ret
    exact ⟨rfl, HBX.out⟩
  · have q0 : (k == 0) = false := by simp [h0]
    by_cases h1 : k = 1
    · subst h1
      have e1 : ((1 : Int) == 1) = true := by decide
      have hk : okOp (1, n) = decide (0 ≤ n ∧ n ≤ 23) := by unfold okOp; simp
      rw [hk]
      have HP := Lib.hid (fun W => isbuiltin_any n W)
      unfold inB at HP
      generalize decide (0 ≤ n ∧ n ≤ 23) = b at HP ⊢
      clear hk h0
      go_enter Tryz.func168, Tryz.ntmps168
      go_wp2_with fail
      refine (HP.out _).mono ?_
      rintro e w1 ⟨rfl, rfl⟩
      go_wp2_with fail
      go_ret
      exact ⟨rfl, HBX.out⟩
    · have q1 : (k == 1) = false := by simp [h1]
      by_cases h2 : k = 2
      · subst h2
        have e2 : ((2 : Int) == 2) = true := by decide
        have hk : okOp (2, n) = decide (0 ≤ n ∧ n ≤ 23) := by unfold okOp; simp
        rw [hk]
        clear hk h0 h1
        by_cases g0 : 0 ≤ n
        · by_cases g1 : n ≤ 23
          · rw [decide_eq_true (show 0 ≤ n ∧ n ≤ 23 from ⟨g0, g1⟩)]
            have g2 : n < 24 := by omega
            go_enter Tryz.func168, Tryz.ntmps168
            go_wp2
            go_ret
            exact ⟨rfl, HBX.out⟩
          · rw [decide_eq_false (show ¬ (0 ≤ n ∧ n ≤ 23) by omega)]
            have g2 : ¬ n < 24 := by omega
            have g3 : decide (n < 24) = false := by simp; omega
            go_enter Tryz.func168, Tryz.ntmps168
            go_wp2
            go_ret
            exact ⟨rfl, HBX.out⟩
        · rw [decide_eq_false (show ¬ (0 ≤ n ∧ n ≤ 23) by omega)]
          have g3 : decide (0 ≤ n) = false := by simp; omega
          go_enter Tryz.func168, Tryz.ntmps168
          go_wp2
          go_ret
          exact ⟨rfl, HBX.out⟩
      · have q2 : (k == 2) = false := by simp [h2]
        have hk : okOp (k, n) = (decide (3 ≤ k ∧ k ≤ 8) && decide (n = 0)) := by unfold okOp; simp [h0, h1, h2]
        rw [hk]
        clear hk h0 h1 h2
        by_cases g0 : 3 ≤ k
        · by_cases g1 : k ≤ 8
          · rw [decide_eq_true (show 3 ≤ k ∧ k ≤ 8 from ⟨g0, g1⟩)]
            go_enter Tryz.func168, Tryz.ntmps168
            go_wp2
            go_ret
            exact ⟨rfl, HBX.out⟩
          · rw [decide_eq_false (show ¬ (3 ≤ k ∧ k ≤ 8) by omega)]
            have g3 : decide (k ≤ 8) = false := by simp; omega
            go_enter Tryz.func168, Tryz.ntmps168
            go_wp2
            go_ret
            exact ⟨rfl, HBX.out⟩
        · rw [decide_eq_false (show ¬ (3 ≤ k ∧ k ≤ 8) by omega)]
          have g3 : decide (3 ≤ k) = false := by simp; omega
          go_enter Tryz.func168, Tryz.ntmps168
          go_wp2
          go_ret
          exact ⟨rfl, HBX.out⟩
end Go.Proofs.YtofikgjoiidhmaaGreatDoor

namespace Go.Proofs.YtofikgjoiidhmaaGreatDoor
open Go.RowKit Go

/-- The numbers of a body lie in 32 bits. -/
def RngO (xs : List (Int × Int)) : Prop := ∀ o ∈ xs, -2147483648 ≤ o.2 ∧ o.2 ≤ 2147483647
set_option maxRecDepth 100000 in
set_option maxHeartbeats 2000000 in
theorem spec_shape_long (xs : List (Int × Int)) (hl : ¬ xs.length ≤ 60) (v : Value) (w : World) (hr : RdS w v xs) : Calls Tryz.prog 35 #[v] w fun e w' => e = .returned (.bool (shapeB xs)) ∧ Below w.heap.size w w' := by
  have hs : shapeB xs = false := by unfold shapeB; simp [hl]
  rw [hs]
  obtain ⟨A, cap, rfl⟩ := hr.form
  obtain ⟨N, hN⟩ : ∃ N, xs.length = N := ⟨_, rfl⟩
  rw [hN]
  have h60 : 60 < N := by omega
  have h60' : (60 : Int) < (N : Int) := by omega
  clear hr hs hl hN
  go_enter Tryz.func35, Tryz.ntmps35
  go_wp2_with fail
  go_ret
  exact ⟨rfl, by go_grown⟩
set_option maxRecDepth 100000 in
set_option maxHeartbeats 4000000 in
theorem spec_shape_short (xs : List (Int × Int)) (hl : xs.length ≤ 60) (hrg : RngO xs) (v : Value) (w : World) (hr : RdS w v xs) : Calls Tryz.prog 35 #[v] w fun e w' => e = .returned (.bool (shapeB xs)) ∧ Below w.heap.size w w' := by
  obtain ⟨R, hR⟩ : ∃ R, shapeB xs = R := ⟨_, rfl⟩
  rw [hR]
  obtain ⟨A, cap, rfl⟩ := hr.form
  obtain ⟨N, hN⟩ : ∃ N, xs.length = N := ⟨_, rfl⟩
  have HR := Lib.hid (fun W (h : Below w.heap.size w W) => hr.below h)
  have HS := Lib.hid (fun W (h : RdS W (.slice A xs.length cap) xs) => spec_open xs hl (.slice A xs.length cap) W h)
  rw [hN] at HS
  have HRR := Lib.hid hR
  have HN := Lib.hid hN
  have HG := Lib.hid hrg
  rw [hN]
  have h60 : N ≤ 60 := by omega
  have h60' : ¬ (60 : Int) < (N : Int) := by omega
  clear hr hrg hR hl hN
  go_enter Tryz.func35, Tryz.ntmps35
  go_wp2_with fail
  go_loopw [3] (fun vi wr => ∃ i : Nat, vi = .int .i64 i ∧ i ≤ N ∧ Hid (Below w.heap.size w wr) ∧ Hid ((xs.take i).all okOp = true)) (fun vi _ => N - (intOf vi).toNat)
  case atStart => exact ⟨0, rfl, by omega, Lib.hid (Below.refl _ _), Lib.hid (by simp)⟩
  case round =>
    obtain ⟨i, rfl, hi, HB, HA⟩ := hrel
    by_cases hp : i < N
    · have hp' : i < xs.length := by rw [HN.out]; exact hp
      have hp2 : i < xs.length := hp'
      obtain ⟨a, rfl, la, p0, p1⟩ := (HR.out wr HB.out).item hp'
      obtain ⟨x, hx⟩ : ∃ x, xs[i] = x := ⟨_, rfl⟩
      have hrx := HG.out x (by rw [← hx]; exact List.getElem_mem hp')
      obtain ⟨k, n⟩ := x
      rw [hx] at p0 p1
      have ht : xs.take (i + 1) = xs.take i ++ [(k, n)] := by rw [List.take_succ_eq_append_getElem hp', hx]
      have HP := Lib.hid (fun W => spec_op k n hrx.1 hrx.2 W)
      have LA : Hid ((a.add (i * 2)).block < wr.heap.size) := Lib.hid (by rw [addr_addb]; exact la)
      have HMEM : Hid ((k, n) ∈ xs) := Lib.hid (by rw [← hx]; exact List.getElem_mem hp')
      have HT := Lib.hid ht
      have i1 : (0 : Int) ≤ (i : Int) := by omega
      have i2 : (i : Int) < (N : Int) := by omega
      clear hx ht hrx la hp' hp2
      by_cases hk : okOp (k, n) = true
      · rw [hk] at HP
        have HA2 : Hid ((xs.take (i + 1)).all okOp = true) := Lib.hid (by rw [HT.out, List.all_append, HA.out, Bool.true_and, List.all_cons, hk]; rfl)
        clear hk HT HMEM HA
        go_wp2_with fail
        refine (HP.out _).mono ?_
        rintro e V ⟨rfl, hbV⟩
        have HW2 := Lib.hid (HB.out.trans (hbV.mono HB.out.size))
        clear hbV HB p0 p1
        go_wp2_with fail
        go_roundw
        case rel => exact ⟨i + 1, by go_num, by omega, HW2, HA2⟩
        case measure => simp [intOf]; omega
      · have hk' : okOp (k, n) = false := by simpa using hk
        rw [hk'] at HP
        have HE : Hid (R = false) := Lib.hid (by
          have ha : xs.all okOp = false := by
            cases hh : xs.all okOp with
            | false => rfl
            | true => rw [List.all_eq_true] at hh; exact absurd (hh _ HMEM.out) hk
          have := HRR.out
          unfold shapeB at this
          rw [ha] at this
          simpa using this.symm)
        clear hk hk' HT HMEM HA
        go_wp2_with fail
        refine (HP.out _).mono ?_
        rintro e V ⟨rfl, hbV⟩
        have HW2 := Lib.hid (HB.out.trans (hbV.mono HB.out.size))
        clear hbV HB p0 p1
        go_wp2_with fail
        go_ret
        exact ⟨by rw [HE.out]; rfl, HW2.out⟩
    · obtain rfl : i = N := by omega
      have HALL : Hid (xs.all okOp = true) := Lib.hid (by have := HA.out; rwa [List.take_of_length_le (by rw [HN.out]; exact Nat.le_refl _)] at this)
      have HC := Lib.hid (HS.out wr (by have := HR.out wr HB.out; rw [HN.out] at this; exact this))
      clear HA HR HS HG
      go_wp2_with fail
      refine HC.out.mono ?_
      rintro e w2 (⟨st, v2, ho, rfl, ⟨A2, c2, rfl⟩, hb2⟩ | ⟨ho, rfl, hb2⟩)
      · have HE : Hid (R = decide (st.length = 0)) := Lib.hid (by
          have h1 := HRR.out
          unfold shapeB at h1
          rw [HALL.out, ho] at h1
          rw [← h1, HN.out]
          simp [h60])
        have HB2 := Lib.hid (HB.out.trans (hb2.mono HB.out.size))
        obtain ⟨m, hm⟩ : ∃ m, st.length = m := ⟨_, rfl⟩
        rw [hm] at HE ⊢
        clear ho hb2 hm HALL HB HC
        by_cases h0 : m = 0
        · subst h0
          go_wp2_with fail
          go_ret
          exact ⟨by rw [HE.out]; rfl, HB2.out⟩
        · have q0 : ((m : Int) == 0) = false := by simp; omega
          have HE2 : Hid (R = false) := Lib.hid (by rw [HE.out]; simpa using h0)
          clear HE h0
          go_wp2_with fail
          go_ret
          exact ⟨by rw [HE2.out]; rfl, HB2.out⟩
      · have HE : Hid (R = false) := Lib.hid (by
          have h1 := HRR.out
          unfold shapeB at h1
          rw [ho] at h1
          simpa using h1.symm)
        have HB2 := Lib.hid (HB.out.trans (hb2.mono HB.out.size))
        clear ho hb2 HALL HB HC
        go_wp2_with fail
        go_ret
        exact ⟨by rw [HE.out]; rfl, HB2.out⟩
theorem spec_shape (xs : List (Int × Int)) (hrg : RngO xs) (v : Value) (w : World) (hr : RdS w v xs) : Calls Tryz.prog 35 #[v] w fun e w' => e = .returned (.bool (shapeB xs)) ∧ Below w.heap.size w w' := by
  by_cases hl : xs.length ≤ 60
  · exact spec_shape_short xs hl hrg v w hr
  · exact spec_shape_long xs hl v w hr
end Go.Proofs.YtofikgjoiidhmaaGreatDoor

namespace Go.Proofs.YtofikgjoiidhmaaGreatDoor
open Go.RowKit Go

theorem infoTr : (Tryz.prog.info? 172).map (fun i => (i.zero, i.size, i.bytes)) = some (some (.agg #[.int .i64 0, .int .i32 0, .slice none 0 0]), 3, 40) := by kernel_rfl
/-- What the functions that make trees of ops tell: trees of one's own, and a place. -/
def TreesEnd (ts : List Tr) (j : Nat) (w : World) (e : Ending) (w' : World) : Prop :=
  ∃ u S, e = .returned (.tuple #[u, .int .i64 (j : Int)]) ∧ OwnT w' w.heap.size u ts S ∧ Below w.heap.size w w'
/-- Room for none, at first. -/
theorem own_emptyT (w : World) : (w.alloc (.cells #[] 172)).ownsRow w.heap.size 172 3 (.slice (some ⟨w.heap.size, 0, none⟩) 0 0) 0 [] :=
  ⟨rfl, .inr ⟨w.heap.size, 0, #[], rfl, Nat.le_refl _, heap_alloc_new w _, Nat.le_refl _, Nat.zero_le _, rfl, rfl⟩⟩
theorem grows_nil {zs : List (Int × Int)} {ys : List (Int × Int)} (h : Grows zs [] ys) : ys = zs ∧ ∀ o r, zs = o :: r → o.1 = 5 ∨ o.1 = 7 := by
  cases h with
  | stop xs h => exact ⟨rfl, h⟩
theorem grows_cons {zs ys : List (Int × Int)} {t : Tr} {ts : List Tr} (h : Grows zs (t :: ts) ys) : ∃ k n r, zs = (k, n) :: r ∧
    ((k ≠ 3 ∧ k ≠ 4 ∧ k ≠ 5 ∧ k ≠ 6 ∧ k ≠ 7 ∧ t = .mk k n [] ∧ Grows r ts ys) ∨ ((k = 3 ∨ k = 4 ∨ k = 6) ∧ ∃ kids r2, t = .mk k n kids ∧ Grows r kids (endOf k :: r2) ∧ Grows r2 ts ys)) := by
  cases h with
  | leaf o r ys ts h g => exact ⟨o.1, o.2, r, rfl, .inl ⟨h.1, h.2.1, h.2.2.1, h.2.2.2.1, h.2.2.2.2, rfl, g⟩⟩
  | nest o r r2 ys kids ts h gk g => exact ⟨o.1, o.2, r, rfl, .inr ⟨h, kids, r2, rfl, gk, g⟩⟩
theorem drop_cons {xs r : List (Int × Int)} {p : Nat} {o : Int × Int} (h : xs.drop p = o :: r) : ∃ hp : p < xs.length, xs[p] = o ∧ xs.drop (p + 1) = r := by
  have hp : p < xs.length := by
    rcases Nat.lt_or_ge p xs.length with h2 | h2
    · exact h2
    · rw [List.drop_of_length_le h2] at h; cases h
  rw [List.drop_eq_getElem_cons hp] at h
  injection h with h1 h2
  exact ⟨hp, h1, h2⟩

theorem PartsT.kept {w w' : World} {base : Nat} {v : Value} {xs : List Tr} {S : Nat → Prop} {f : Nat → Value} {bs : Nat → Nat → Prop} (P : PartsT w base v xs S f bs) (hz : w.heap.size ≤ w'.heap.size) (hk : ∀ g, S g → w'.heap[g]? = w.heap[g]?) : PartsT w' base v xs S f bs :=
  ⟨row_same P.row (fun g hg => hk g (P.sub g (.inl hg))), fun j hj => (P.kids j hj).kept hz (fun g hg => hk g (P.sub g (.inr ⟨j, hj, hg⟩))), P.d1, P.d2, P.sub, fun g hg => ⟨(P.bound g hg).1, by have := (P.bound g hg).2; omega⟩⟩
theorem PartsT.alloc {w : World} {base : Nat} {v : Value} {xs : List Tr} {S : Nat → Prop} {f : Nat → Value} {bs : Nat → Nat → Prop} (P : PartsT w base v xs S f bs) (o : Obj) : PartsT (w.alloc o) base v xs S f bs := by
  have b1 : Below w.heap.size w (w.alloc o) := below_alloc1 w o
  exact ⟨row_same P.row (fun g hg => b1.block g (P.bound g (P.sub g (.inl hg))).2), fun j hj => (P.kids j hj).kept b1.size (fun g hg => b1.block g (P.bound g (P.sub g (.inr ⟨j, hj, hg⟩))).2), P.d1, P.d2, P.sub, fun g hg => ⟨(P.bound g hg).1, by have := (P.bound g hg).2; have := b1.size; omega⟩⟩
theorem src_three (w : World) (a b c : Value) : SrcAt (w.alloc (.cells #[a, b, c] 172)) 3 (.slice (some ⟨w.heap.size, 0, none⟩) 1 1) 1 [a, b, c] := by
  refine ⟨_, _, rfl, rfl, fun h => by simp at h, fun q hq j x hj => ?_⟩
  obtain rfl : q = ⟨w.heap.size, 0, none⟩ := by injection hq with hq; exact hq.symm
  rw [addr_lit, cell_of_row _ w.heap.size (0 + j) #[a, b, c] 172 (0, 0) (heap_alloc_new w _), Nat.zero_add]
  simpa using hj
/-- What TreeOf tells of ops. -/
def TreesOf (xs : List (Int × Int)) (ts : List Tr) : Prop := (shapeB xs = true ∧ Grows xs ts []) ∨ (shapeB xs = false ∧ ts = [])
theorem treesOf_any (xs : List (Int × Int)) : ∃ ts, TreesOf xs ts := by
  cases h : shapeB xs with
  | true =>
    obtain ⟨ts, g⟩ := shape_grows h
    exact ⟨ts, .inl ⟨h, g⟩⟩
  | false => exact ⟨[], .inr ⟨h, rfl⟩⟩
theorem shape_len {xs : List (Int × Int)} (h : shapeB xs = true) : xs.length ≤ 60 ∧ xs.all okOp = true := by
  unfold shapeB at h
  simp only [Bool.and_eq_true, decide_eq_true_eq] at h
  exact ⟨h.1, h.2.1⟩
theorem TreesOf.size {xs : List (Int × Int)} {ts : List Tr} (h : TreesOf xs ts) : sizeL ts ≤ 60 := by
  rcases h with ⟨h, g⟩ | ⟨-, rfl⟩
  · have := g.size; have := (shape_len h).1; omega
  · simp [sizeL]
/-- A list of trees of one's own. -/
def NewT (ts : List Tr) (w : World) (e : Ending) (w' : World) : Prop := ∃ u S, e = .returned u ∧ OwnT w' w.heap.size u ts S ∧ Below w.heap.size w w'
end Go.Proofs.YtofikgjoiidhmaaGreatDoor

namespace Go.Proofs.YtofikgjoiidhmaaGreatDoor
open Go.RowKit Go

/-- What l09Flat tells. -/
def FlatEnd (ts : List Tr) (D L0 : Nat) (w : World) (e : Ending) (w' : World) : Prop :=
  (shL ts = true ∧ (flatL ts).length ≤ L0 + D ∧ ∃ u, e = .returned (.tuple #[u, .bool true]) ∧ w'.ownsRow w.heap.size 70 2 u (flatL ts).length (slv (flatL ts)) ∧ Below w.heap.size w w') ∨
  (¬ (shL ts = true ∧ (flatL ts).length ≤ L0 ∧ (flatL ts).length + 1 ≤ D) ∧ e = .returned (.tuple #[.slice none 0 0, .bool false]) ∧ Below w.heap.size w w')
theorem own_emptyO (w : World) : (w.alloc (.cells #[] 70)).ownsRow w.heap.size 70 2 (.slice (some ⟨w.heap.size, 0, none⟩) 0 0) 0 [] :=
  ⟨rfl, .inr ⟨w.heap.size, 0, #[], rfl, Nat.le_refl _, heap_alloc_new w _, Nat.le_refl _, Nat.zero_le _, rfl, rfl⟩⟩
theorem src_two (w : World) (a b : Value) : SrcAt (w.alloc (.cells #[a, b] 70)) 2 (.slice (some ⟨w.heap.size, 0, none⟩) 1 1) 1 [a, b] := by
  refine ⟨_, _, rfl, rfl, fun h => by simp at h, fun q hq j x hj => ?_⟩
  obtain rfl : q = ⟨w.heap.size, 0, none⟩ := by injection hq with hq; exact hq.symm
  rw [addr_lit, cell_of_row _ w.heap.size (0 + j) #[a, b] 70 (0, 0) (heap_alloc_new w _), Nat.zero_add]
  simpa using hj
theorem row_keep {w w' : World} {base size : Nat} {e : TypeId} {v : Value} {n : Nat} {xs : List Value} (h : w.ownsRow base e size v n xs) (hb : Below w.heap.size w w') : w'.ownsRow base e size v n xs := row_same h (fun g hg => hb.block g (World.ownsRow.lt h g hg).2)
theorem src_row {w : World} {base : Nat} {e : TypeId} {v : Value} {xs : List (Int × Int)} (h : w.ownsRow base e 2 v xs.length (slv xs)) : SrcAt w 2 v xs.length (slv xs) := by
  rcases h.2 with ⟨rfl, h0⟩ | ⟨g, cap, cur, rfl, hb, hg, hn, hm, hsz, ht⟩
  · refine ⟨none, 0, by rw [h0], slv_len xs, fun _ => h0, fun a ha => by cases ha⟩
  · refine ⟨some ⟨g, 0, none⟩, cap, rfl, slv_len xs, (fun h => by cases h), fun a ha j x hj => ?_⟩
    obtain rfl : a = ⟨g, 0, none⟩ := by injection ha with ha; exact ha.symm
    have hjl : j < (slv xs).length := (List.getElem?_eq_some_iff.1 hj).1
    rw [addr_lit, Nat.zero_add, h.cellAt j (by rw [slv_len] at hjl; exact hjl)]
    exact hj
theorem slv_ones (xs : List (Int × Int)) : ∀ u ∈ slv xs, u.oneCell' = true := slv_one
/-- How a kind's tests come out. -/
theorem kinds_any (k : Int) : ((k == 3) = true ∧ (k = 3 ∨ k = 4 ∨ k = 6)) ∨ (((k == 3) = false ∧ (k == 4) = true) ∧ (k = 3 ∨ k = 4 ∨ k = 6)) ∨ (((k == 3) = false ∧ (k == 4) = false ∧ (k == 6) = true) ∧ (k = 3 ∨ k = 4 ∨ k = 6)) ∨
    (((k == 3) = false ∧ (k == 4) = false ∧ (k == 6) = false ∧ (k == 5) = true) ∧ k = 5) ∨ (((k == 3) = false ∧ (k == 4) = false ∧ (k == 6) = false ∧ (k == 5) = false ∧ (k == 7) = true) ∧ k = 7) ∨
    (((k == 3) = false ∧ (k == 4) = false ∧ (k == 6) = false ∧ (k == 5) = false ∧ (k == 7) = false) ∧ k ≠ 3 ∧ k ≠ 4 ∧ k ≠ 5 ∧ k ≠ 6 ∧ k ≠ 7) := by
  simp only [beq_iff_eq, beq_eq_false_iff_ne]
  omega
theorem AppAlt.where9 {w w' : World} {n m : Nat} {d d' : Value} (h : AppAlt w w' d d' n m) : ∀ k, d'.ownBlock = some k → d.ownBlock = some k ∨ w.heap.size ≤ k := by
  intro k hk
  rcases h with ⟨g, cap, rfl, -, rfl, -⟩ | ⟨-, h⟩
  · exact .inl hk
  · exact .inr (h k hk)
end Go.Proofs.YtofikgjoiidhmaaGreatDoor

namespace Go.Proofs.YtofikgjoiidhmaaGreatDoor
open Go.RowKit Go

/-- An op is drawn; only the cursor's block has changed. -/
def DrewOp (g : Nat) (w : World) (e : Ending) (w' : World) : Prop := ∃ k z : Int, e = .returned (.agg #[.int .i64 k, .int .i32 z]) ∧ (-2147483648 ≤ z ∧ z ≤ 2147483647) ∧ CurAt w' g ∧ w.grownBy w' (some g)
theorem op_done {w W : World} {g r : Nat} {k z : Int} (hk : Blk W r 70 #[.int .i64 0, .int .i32 0]) (hgl : g < r) (hr : w.heap.size ≤ r) (hc : CurAt W g) (hg : w.grownBy W (some g)) (W2 : World) (hW : W2 = (W.setCell ⟨r, 0, none⟩ (.int .i64 k)).setCell ⟨r, 1, none⟩ (.int .i32 z)) :
    Blk W2 r 70 #[.int .i64 k, .int .i32 z] ∧ CurAt W2 g ∧ w.grownBy W2 (some g) := by
  have b := (hk.put 0 (.int .i64 k)).put 1 (.int .i32 z)
  rw [← hW] at b
  have e : (#[Value.int .i64 0, Value.int .i32 0].setIfInBounds 0 (.int .i64 k)).setIfInBounds 1 (.int .i32 z) = #[.int .i64 k, .int .i32 z] := by simp
  rw [e] at b
  have s1 : W.grownBy (W.setCell ⟨r, 0, none⟩ (.int .i64 k)) (some r) := only_setCell (World.grownBy.refl W (some r)) (.inl rfl) _
  have s2 : W.grownBy W2 (some r) := by rw [hW]; exact only_setCell s1 (.inl rfl) _
  have t1 : w.grownBy (W.setCell ⟨r, 0, none⟩ (.int .i64 k)) (some g) := only_setCell hg (.inr hr) _
  have t2 : w.grownBy W2 (some g) := by rw [hW]; exact only_setCell t1 (.inr hr) _
  exact ⟨b, hc.grown s2 (fun k hk => by injection hk with hk; omega), t2⟩
set_option maxRecDepth 100000 in
set_option maxHeartbeats 4000000 in
theorem plain_any (g : Nat) (n : Int) (hn0 : -1 ≤ n) (hn1 : n ≤ 1000) (w : World) (hc : CurAt w g) : Calls Tryz.prog 132 #[.pointer (some ⟨g, 0, none⟩), .int .i64 n] w (DrewOp g w) := by
  have hgl := cur_lt hc
  have HC0 := Lib.hid (below_any g 7 (by omega) (by omega) _ (hc.grown (World.grownBy_alloc w (.cells #[.int .i64 0, .int .i32 0] 70) none) (fun _ h => by cases h)))
  have K0 := Lib.hid (Blk.new w 70 #[.int .i64 0, .int .i32 0])
  have G0 := Lib.hid (only_alloc (World.grownBy.refl w (some g)) (.cells #[.int .i64 0, .int .i32 0] 70))
  clear hc
  go_enter Tryz.func132, Tryz.ntmps132
  go_wp2_with fail
  refine HC0.out.mono ?_
  rintro e w1 ⟨x, rfl, ⟨hx0, hx1⟩, hc1, hg1⟩
  have K1 := Lib.hid (K0.out.grown hg1 (fun e => by injection e with e; omega))
  have G1 := Lib.hid (only_trans G0.out hg1)
  have HC1 := Lib.hid hc1
  have hx2 : x ≤ 6 := by simpa using hx1
  clear hc1 hg1 HC0 K0 G0 hx1
  by_cases h01 : (x == 0) = true ∨ ((x == 0) = false ∧ (x == 1) = true)
  · have HB := Lib.hid (below_any g 9 (by omega) (by omega) w1 HC1.out)
    rcases h01 with q0 | ⟨q0, q1⟩
    all_goals
      go_wp2_with fail
      refine HB.out.mono ?_
      rintro e w2 ⟨y, rfl, ⟨hy0, hy1⟩, hc2, hg2⟩
      have hy2 : y ≤ 8 := by simpa using hy1
      have K2 := K1.out.grown hg2 (fun e => by injection e with e; omega)
      have G2 := only_trans G1.out hg2
      have wy : IntKind.i32.wrap (y - 2) = y - 2 := IntWalk.i32_in _ (by omega)
      have c0 : w2.cell? ⟨w.heap.size, 0, none⟩ = some (.int .i64 0) := K2.cell 0
      have c1 : w2.cell? ⟨w.heap.size, 1, none⟩ = some (.int .i32 0) := K2.cell 1
      have ff := K2.frozen
      have HD := Lib.hid (op_done (k := 0) (z := y - 2) K2 hgl (Nat.le_refl _) hc2 G2 _ rfl)
      have lz : w.heap.size < w2.heap.size := K2.lt
      clear hy1 hc2 hg2 K2 G2
      go_wp2_with fail
      show bodyPost _ _ _ _ _ ((w2.setCell ⟨w.heap.size, 0, none⟩ (.int .i64 0)).setCell ⟨w.heap.size, 1, none⟩ (.int .i32 (y - 2)))
      obtain ⟨d0, d1, d2⟩ := HD.out
      generalize ((w2.setCell ⟨w.heap.size, 0, none⟩ (.int .i64 0)).setCell ⟨w.heap.size, 1, none⟩ (.int .i32 (y - 2))) = W at d0 d1 d2 ⊢
      have z0 : W.cell? ⟨w.heap.size, 0, none⟩ = some (.int .i64 0) := d0.cell 0
      have z1 : W.cell? ⟨w.heap.size, 1, none⟩ = some (.int .i32 (y - 2)) := d0.cell 1
      exact bodyPost_ret (v := .agg #[.int .i64 0, .int .i32 (y - 2)]) (by simp [results, Tryz.results132, z0, z1, go_sem]) rfl ⟨0, y - 2, rfl, by omega, d1, d2⟩
  · have hx3 : (x == 0) = false ∧ (x == 1) = false := by simp only [beq_iff_eq, beq_eq_false_iff_ne] at *; omega
    obtain ⟨q0, q1⟩ := hx3
    by_cases h2 : (x == 2) = true ∧ 0 < n
    · obtain ⟨q2, q3⟩ := h2
      have HB := Lib.hid (below_any g n (by omega) (by omega) w1 HC1.out)
      clear h01
      go_wp2_with fail
      refine HB.out.mono ?_
      rintro e w2 ⟨y, rfl, ⟨hy0, hy1⟩, hc2, hg2⟩
      rw [if_neg (by omega)] at hy1
      have wy : IntKind.i32.wrap y = y := IntWalk.i32_in _ (by omega)
      have K2 := K1.out.grown hg2 (fun e => by injection e with e; omega)
      have G2 := only_trans G1.out hg2
      have c0 : w2.cell? ⟨w.heap.size, 0, none⟩ = some (.int .i64 0) := K2.cell 0
      have c1 : w2.cell? ⟨w.heap.size, 1, none⟩ = some (.int .i32 0) := K2.cell 1
      have ff := K2.frozen
      have HD := Lib.hid (op_done (k := 2) (z := y) K2 hgl (Nat.le_refl _) hc2 G2 _ rfl)
      have lz : w.heap.size < w2.heap.size := K2.lt
      clear hc2 hg2 K2 G2
      go_wp2_with fail
      show bodyPost _ _ _ _ _ ((w2.setCell ⟨w.heap.size, 0, none⟩ (.int .i64 2)).setCell ⟨w.heap.size, 1, none⟩ (.int .i32 y))
      obtain ⟨d0, d1, d2⟩ := HD.out
      generalize ((w2.setCell ⟨w.heap.size, 0, none⟩ (.int .i64 2)).setCell ⟨w.heap.size, 1, none⟩ (.int .i32 y)) = W at d0 d1 d2 ⊢
      have z0 : W.cell? ⟨w.heap.size, 0, none⟩ = some (.int .i64 2) := d0.cell 0
      have z1 : W.cell? ⟨w.heap.size, 1, none⟩ = some (.int .i32 y) := d0.cell 1
      exact bodyPost_ret (v := .agg #[.int .i64 2, .int .i32 y]) (by simp [results, Tryz.results132, z0, z1, go_sem]) rfl ⟨2, y, rfl, by omega, d1, d2⟩
    · have PK := Lib.hid (pickint_any g w1.heap.size [0, 0, 1, 2, 3, 4, 5, 5, 6, 7, 8, 9, 10, 11, 12, 13, 14, 15, 16, 17, 18, 19, 20, 21, 22, 22, 23] (w1.alloc (.cells (([0, 0, 1, 2, 3, 4, 5, 5, 6, 7, 8, 9, 10, 11, 12, 13, 14, 15, 16, 17, 18, 19, 20, 21, 22, 22, 23] : List Int).map (Value.int .i64)).toArray 3)) (HC1.out.grown (World.grownBy_alloc w1 _ none) (fun _ h => by cases h)) (ints_new w1 3 _) (by have := K1.out.lt; omega) (by simp) (by decide) (by decide))
      have GA := Lib.hid (World.grownBy_alloc w1 (.cells (([0, 0, 1, 2, 3, 4, 5, 5, 6, 7, 8, 9, 10, 11, 12, 13, 14, 15, 16, 17, 18, 19, 20, 21, 22, 22, 23] : List Int).map (Value.int .i64)).toArray 3) none)
      have q23 : (x == 2) = false ∨ ((x == 2) = true ∧ ¬ 0 < n) := by
        cases hq : (x == 2) with
        | false => exact .inl rfl
        | true => exact .inr ⟨rfl, fun h => h2 ⟨hq, h⟩⟩
      clear h01 h2
      rcases q23 with q2 | ⟨q2, q3⟩
      all_goals
        go_wp2_with fail
        refine PK.out.mono ?_
        rintro e w2 ⟨y, rfl, hy, hc2, hg2⟩
        have hyr : 0 ≤ y ∧ y ≤ 23 := by
          simp only [List.mem_cons, List.not_mem_nil, or_false] at hy
          omega
        have hg2 : w1.grownBy w2 (some g) := only_trans (only_alloc (World.grownBy.refl w1 (some g)) _) hg2
        have wy : IntKind.i32.wrap y = y := IntWalk.i32_in _ (by omega)
        clear hy
        have K2 := K1.out.grown hg2 (fun e => by injection e with e; omega)
        have G2 := only_trans G1.out hg2
        have c0 : w2.cell? ⟨w.heap.size, 0, none⟩ = some (.int .i64 0) := K2.cell 0
        have c1 : w2.cell? ⟨w.heap.size, 1, none⟩ = some (.int .i32 0) := K2.cell 1
        have ff := K2.frozen
        have HD := Lib.hid (op_done (k := 1) (z := y) K2 hgl (Nat.le_refl _) hc2 G2 _ rfl)
        have lz : w.heap.size < w2.heap.size := K2.lt
        clear hc2 hg2 K2 G2
        go_wp2_with fail
        show bodyPost _ _ _ _ _ ((w2.setCell ⟨w.heap.size, 0, none⟩ (.int .i64 1)).setCell ⟨w.heap.size, 1, none⟩ (.int .i32 y))
        obtain ⟨d0, d1, d2⟩ := HD.out
        generalize ((w2.setCell ⟨w.heap.size, 0, none⟩ (.int .i64 1)).setCell ⟨w.heap.size, 1, none⟩ (.int .i32 y)) = W at d0 d1 d2 ⊢
        have z0 : W.cell? ⟨w.heap.size, 0, none⟩ = some (.int .i64 1) := d0.cell 0
        have z1 : W.cell? ⟨w.heap.size, 1, none⟩ = some (.int .i32 y) := d0.cell 1
        exact bodyPost_ret (v := .agg #[.int .i64 1, .int .i32 y]) (by simp [results, Tryz.results132, z0, z1, go_sem]) rfl ⟨1, y, rfl, by omega, d1, d2⟩
end Go.Proofs.YtofikgjoiidhmaaGreatDoor

namespace Go.Proofs.YtofikgjoiidhmaaGreatDoor
open Go.RowKit Go

/-- How long a drawn body may be. -/
def bndB : Nat → Nat | 0 => 5 | D + 1 => 4 * (4 + bndB D) + 1
/-- A body that is drawn so far: a row of the call's own, a cursor, and nothing else has changed. -/
structure BodyAt (g : Nat) (w : World) (B : Nat) (v : Value) (xs : List (Int × Int)) (wr : World) : Prop where
  len : xs.length ≤ B
  rng : RngO xs
  row : wr.ownsRow w.heap.size 70 2 v xs.length (slv xs)
  cur : CurAt wr g
  only : w.grownBy wr (some g)
  glt : g < w.heap.size
def DrewBody (g B : Nat) (w : World) (e : Ending) (w' : World) : Prop := ∃ v xs, e = .returned v ∧ BodyAt g w B v xs w'
section
variable {g B : Nat} {w wr w2 : World} {v : Value} {xs : List (Int × Int)}
theorem BodyAt.drawn (h : BodyAt g w B v xs wr) (hc : CurAt w2 g) (hg : wr.grownBy w2 (some g)) : BodyAt g w B v xs w2 :=
  ⟨h.len, h.rng, row_same h.row (fun k hk => hg.block k (World.ownsRow.lt h.row k hk).2 (fun e => by injection e with e; have := (World.ownsRow.lt h.row k hk).1; have := h.glt; omega)), hc, only_trans h.only hg, h.glt⟩
theorem BodyAt.alloc (h : BodyAt g w B v xs wr) (o : Obj) : BodyAt g w B v xs (wr.alloc o) := h.drawn (h.cur.grown (World.grownBy_alloc wr o none) (fun _ e => by cases e)) (only_alloc (World.grownBy.refl wr (some g)) o)
theorem BodyAt.app (h : BodyAt g w B v xs wr) {v9 : Value} {ys : List (Int × Int)} {m C : Nat} (hr : w2.ownsRow w.heap.size 70 2 v9 (xs.length + m) (slv xs ++ slv ys)) (ha : AppAlt wr w2 v v9 xs.length m) (hm : ys.length = m) (hy : RngO ys) (hC : B + m ≤ C) : BodyAt g w C v9 (xs ++ ys) w2 := by
  have hgr := ha.grown
  have hlo : ∀ k, v.ownBlock = some k → w.heap.size ≤ k := fun k hk => (World.ownsRow.lt h.row k hk).1
  refine ⟨by rw [List.length_append]; have := h.len; omega, fun o ho => ?_, by rw [List.length_append, slv_app, hm]; exact hr, h.cur.grown hgr (fun k hk => by have := hlo k hk; have := h.glt; omega), only_app h.only hgr hlo, h.glt⟩
  rcases List.mem_append.1 ho with h1 | h1
  · exact h.rng o h1
  · exact hy o h1
theorem BodyAt.more (h : BodyAt g w B v xs wr) {C : Nat} (hC : B ≤ C) : BodyAt g w C v xs wr := ⟨Nat.le_trans h.len hC, h.rng, h.row, h.cur, h.only, h.glt⟩
end
theorem rng_one {k z : Int} (h : -2147483648 ≤ z ∧ z ≤ 2147483647) : RngO [(k, z)] := fun o ho => by rw [List.mem_singleton.1 ho]; exact h
theorem rng_two {k z k2 z2 : Int} (h : -2147483648 ≤ z ∧ z ≤ 2147483647) (h2 : -2147483648 ≤ z2 ∧ z2 ≤ 2147483647) : RngO [(k, z), (k2, z2)] := fun o ho => by
  rcases List.mem_cons.1 ho with rfl | ho
  · exact h
  · rw [List.mem_singleton.1 ho]; exact h2
theorem src_four (w : World) (a b c d : Value) : SrcAt (w.alloc (.cells #[a, b, c, d] 70)) 2 (.slice (some ⟨w.heap.size, 0, none⟩) 2 2) 2 [a, b, c, d] := by
  refine ⟨_, _, rfl, rfl, fun h => by simp at h, fun q hq j x hj => ?_⟩
  obtain rfl : q = ⟨w.heap.size, 0, none⟩ := by injection hq with hq; exact hq.symm
  rw [addr_lit, cell_of_row _ w.heap.size (0 + j) #[a, b, c, d] 70 (0, 0) (heap_alloc_new w _), Nat.zero_add]
  simpa using hj
set_option maxRecDepth 100000 in
set_option maxHeartbeats 16000000 in
theorem body_any : ∀ (D : Nat), D ≤ 3 → ∀ (g : Nat) (n : Int), 0 ≤ n → n ≤ 1000 → ∀ (w : World), CurAt w g → Calls Tryz.prog 68 #[.pointer (some ⟨g, 0, none⟩), .int .i64 n, .int .i64 (D : Int)] w (DrewBody g (bndB D) w) := by
  intro D
  induction D with
  | zero =>
    intro hD g n hn0 hn1 w hc
    obtain ⟨i0, hi0, hz0, hz1, hz2⟩ := info_parts infoS
    have hgl := cur_lt hc
    have B0 := Lib.hid (show BodyAt g w 0 (.slice (some ⟨w.heap.size, 0, none⟩) 0 0) [] (w.alloc (.cells #[] 70)) from ⟨Nat.le_refl _, fun o ho => by simp at ho, own_emptyO w, hc.grown (World.grownBy_alloc w _ none) (fun _ h => by cases h), only_alloc (World.grownBy.refl w (some g)) _, hgl⟩)
    have HC0 := Lib.hid (below_any g 5 (by omega) (by omega) _ B0.out.cur)
    clear hc
    go_enter Tryz.func68, Tryz.ntmps68
    go_wp2_with fail
    refine HC0.out.mono ?_
    rintro e w1 ⟨x, rfl, ⟨hx0, hx1⟩, hc1, hg1⟩
    have B1 := Lib.hid ((B0.out.drawn hc1 hg1).more (C := 0 * (1)) (by omega))
    obtain ⟨k, rfl⟩ : ∃ k : Nat, x = (k : Int) := ⟨x.toNat, by omega⟩
    have hk4 : k ≤ 4 := by have : (k : Int) ≤ 4 := by simpa using hx1
                           omega
    clear hx0 hx1 hc1 hg1 B0 HC0
    go_wp2_with fail
    go_loopw [7, 9] (fun vo vi wr => ∃ (i : Nat) (u : Value) (xs : List (Int × Int)), vi = .int .i64 i ∧ vo = u ∧ i ≤ k ∧ Hid (BodyAt g w (i * (1)) u xs wr)) (fun _ vi _ => k - (intOf vi).toNat)
    case atStart => exact ⟨0, _, [], rfl, rfl, by omega, B1⟩
    case round =>
      obtain ⟨i, u, xs, rfl, rfl, hi, BR⟩ := hrel
      clear B1
      obtain ⟨E, ec, rfl⟩ := own_formS BR.out.row
      have hib : i * (1) ≤ 4 * (1) := Nat.mul_le_mul_right _ (by omega)
      have hCb : (1) ≤ 200 := by decide
      by_cases hp : i < k
      · have i1 : (i : Int) < (k : Int) := by omega
        have hsu : (i + 1) * (1) = i * (1) + (1) := Nat.succ_mul _ _
        have HP := Lib.hid (plain_any g n (by omega) hn1 _ BR.out.cur)
        go_wp2_with fail
        refine HP.out.mono ?_
        rintro e w2 ⟨kk, zz, rfl, hzr, hc2, hg2⟩
        have B2 := Lib.hid (BR.out.drawn hc2 hg2)
        clear hc2 hg2 HP BR
        have B2A := Lib.hid (B2.out.alloc (.cells #[.int .i64 kk, .int .i32 zz] 70))
        have SRC := Lib.hid (src_two w2 (.int .i64 kk) (.int .i32 zz))
        go_wp2_with (at_builtin; refine wpList_append_src rfl _ _ 57 rfl w.heap.size 70 i0 (.agg #[.int .i64 0, .int .i32 0]) 2 16 Tryz.underlying57 hi0 hz0 hz1 hz2 rfl (by decide) _ xs.length _ rfl (B2A.out.row) _ 1 [.int .i64 kk, .int .i32 zz] rfl SRC.out (by simp [Value.oneCell']) (by have := B2A.out.len; unfold maxLen; omega) (by have := B2A.out.len; omega) (by have := B2A.out.only.size; omega) ?_; intro v9 w9 ho9 ha9; refine unstop ?_)
        refine Stop.go ?_
        have B3 := Lib.hid (B2A.out.app (ys := [(kk, zz)]) ho9 ha9.out rfl (rng_one hzr) (C := i * (1) + 1) (by omega))
        obtain ⟨x3, hx3⟩ : ∃ z, xs ++ [(kk, zz)] = z := ⟨_, rfl⟩
        rw [hx3] at B3
        obtain ⟨E9, ec9, rfl⟩ := own_formS B3.out.row
        clear ho9 ha9 hx3 SRC B2 B2A
        go_wp2_with fail
        go_roundw
        case rel => exact ⟨i + 1, _, x3, by go_num, rfl, by omega, Lib.hid (B3.out.more (by rw [hsu]; omega))⟩
        case measure => simp [intOf]; omega
      · obtain rfl : i = k := by omega
        have hp2 : ¬ (i : Int) < (i : Int) := by omega
        have HO := Lib.hid (once_any g 4 (by omega) _ BR.out.cur)
        clear hp hi
        go_wp2_with fail
        refine HO.out.mono ?_
        rintro e w2 ⟨b, rfl, hc2, hg2⟩
        have B2 := Lib.hid (BR.out.drawn hc2 hg2)
        have hk44 : i * (1) ≤ 4 * (1) := Nat.mul_le_mul_right _ hk4
        clear hc2 hg2 HO BR
        cases b with
        | false =>
          go_wp2_with fail
          go_ret
          exact ⟨_, xs, rfl, B2.out.more (by show _ ≤ 4 * (1) + 1; omega)⟩
        | true =>
          have B2A := Lib.hid (B2.out.alloc (.cells #[.int .i64 8, .int .i32 0] 70))
          have SRC := Lib.hid (src_two w2 (.int .i64 8) (.int .i32 0))
          go_wp2_with (at_builtin; refine wpList_append_src rfl _ _ 57 rfl w.heap.size 70 i0 (.agg #[.int .i64 0, .int .i32 0]) 2 16 Tryz.underlying57 hi0 hz0 hz1 hz2 rfl (by decide) _ xs.length _ rfl (B2A.out.row) _ 1 [.int .i64 8, .int .i32 0] rfl SRC.out (by simp [Value.oneCell']) (by have := B2A.out.len; unfold maxLen; omega) (by have := B2A.out.len; omega) (by have := B2A.out.only.size; omega) ?_; intro v9 w9 ho9 ha9; refine unstop ?_)
          refine Stop.go ?_
          have B3 := Lib.hid (B2A.out.app (ys := [(8, 0)]) ho9 ha9.out rfl (rng_one (by decide)) (C := 4 * (1) + 1) (by omega))
          clear ho9 ha9 SRC
          go_wp2_with fail
          go_ret
          exact ⟨_, _, rfl, B3.out⟩
  | succ D ih =>
    intro hD g n hn0 hn1 w hc
    obtain ⟨i0, hi0, hz0, hz1, hz2⟩ := info_parts infoS
    have hgl := cur_lt hc
    have B0 := Lib.hid (show BodyAt g w 0 (.slice (some ⟨w.heap.size, 0, none⟩) 0 0) [] (w.alloc (.cells #[] 70)) from ⟨Nat.le_refl _, fun o ho => by simp at ho, own_emptyO w, hc.grown (World.grownBy_alloc w _ none) (fun _ h => by cases h), only_alloc (World.grownBy.refl w (some g)) _, hgl⟩)
    have HC0 := Lib.hid (below_any g 5 (by omega) (by omega) _ B0.out.cur)
    have HIH := Lib.hid (ih (by omega))
    have hbd : bndB D ≤ 165 := by have : D = 0 ∨ D = 1 ∨ D = 2 := by omega
                                  rcases this with rfl | rfl | rfl <;> decide
    clear ih
    clear hc
    go_enter Tryz.func68, Tryz.ntmps68
    go_wp2_with fail
    refine HC0.out.mono ?_
    rintro e w1 ⟨x, rfl, ⟨hx0, hx1⟩, hc1, hg1⟩
    have B1 := Lib.hid ((B0.out.drawn hc1 hg1).more (C := 0 * (4 + bndB D)) (by omega))
    obtain ⟨k, rfl⟩ : ∃ k : Nat, x = (k : Int) := ⟨x.toNat, by omega⟩
    have hk4 : k ≤ 4 := by have : (k : Int) ≤ 4 := by simpa using hx1
                           omega
    clear hx0 hx1 hc1 hg1 B0 HC0
    go_wp2_with fail
    go_loopw [7, 9] (fun vo vi wr => ∃ (i : Nat) (u : Value) (xs : List (Int × Int)), vi = .int .i64 i ∧ vo = u ∧ i ≤ k ∧ Hid (BodyAt g w (i * (4 + bndB D)) u xs wr)) (fun _ vi _ => k - (intOf vi).toNat)
    case atStart => exact ⟨0, _, [], rfl, rfl, by omega, B1⟩
    case round =>
      obtain ⟨i, u, xs, rfl, rfl, hi, BR⟩ := hrel
      clear B1
      obtain ⟨E, ec, rfl⟩ := own_formS BR.out.row
      have hib : i * (4 + bndB D) ≤ 4 * (4 + bndB D) := Nat.mul_le_mul_right _ (by omega)
      have hCb : (4 + bndB D) ≤ 200 := by omega
      by_cases hp : i < k
      · have i1 : (i : Int) < (k : Int) := by omega
        have hsu : (i + 1) * (4 + bndB D) = i * (4 + bndB D) + (4 + bndB D) := Nat.succ_mul _ _
        have HP := Lib.hid (plain_any g n (by omega) hn1 _ BR.out.cur)
        go_wp2_with fail
        refine HP.out.mono ?_
        rintro e w2 ⟨kk, zz, rfl, hzr, hc2, hg2⟩
        have B2 := Lib.hid (BR.out.drawn hc2 hg2)
        clear hc2 hg2 HP BR
        have B2A := Lib.hid (B2.out.alloc (.cells #[.int .i64 kk, .int .i32 zz] 70))
        have SRC := Lib.hid (src_two w2 (.int .i64 kk) (.int .i32 zz))
        go_wp2_with (at_builtin; refine wpList_append_src rfl _ _ 57 rfl w.heap.size 70 i0 (.agg #[.int .i64 0, .int .i32 0]) 2 16 Tryz.underlying57 hi0 hz0 hz1 hz2 rfl (by decide) _ xs.length _ rfl (B2A.out.row) _ 1 [.int .i64 kk, .int .i32 zz] rfl SRC.out (by simp [Value.oneCell']) (by have := B2A.out.len; unfold maxLen; omega) (by have := B2A.out.len; omega) (by have := B2A.out.only.size; omega) ?_; intro v9 w9 ho9 ha9; refine unstop ?_)
        refine Stop.go ?_
        have B3 := Lib.hid (B2A.out.app (ys := [(kk, zz)]) ho9 ha9.out rfl (rng_one hzr) (C := i * (4 + bndB D) + 1) (by omega))
        obtain ⟨x3, hx3⟩ : ∃ z, xs ++ [(kk, zz)] = z := ⟨_, rfl⟩
        rw [hx3] at B3
        obtain ⟨E9, ec9, rfl⟩ := own_formS B3.out.row
        clear ho9 ha9 hx3 SRC B2 B2A
        have HO3 := Lib.hid (once_any g 3 (by omega) w9 B3.out.cur)
        have dq : ¬ ((D : Int) + 1) ≤ 0 := by omega
        go_wp2_with fail
        refine HO3.out.mono ?_
        rintro e w4 ⟨b, rfl, hc4, hg4⟩
        have B4 := Lib.hid (B3.out.drawn hc4 hg4)
        clear hc4 hg4 HO3 B3
        cases b with
        | false =>
          go_wp2_with fail
          go_roundw
          case rel => exact ⟨i + 1, _, x3, by go_num, rfl, by omega, Lib.hid (B4.out.more (by rw [hsu]; omega))⟩
          case measure => simp [intOf]; omega
        | true =>
          have HBD := Lib.hid (HIH.out g n hn0 hn1 w4 B4.out.cur)
          have HMB : Hid (∀ q, (Value.slice E9 x3.length ec9).ownBlock = some q → q < w4.heap.size) := Lib.hid (fun q hq => (World.ownsRow.lt B4.out.row q hq).2)
          have HGW : Hid (g < w4.heap.size) := Lib.hid (cur_lt B4.out.cur)
          go_wp2_with fail
          refine HBD.out.mono ?_
          rintro e w5 ⟨v5, x5, rfl, h5⟩
          have HL5 := Lib.hid h5.len
          have HX5 := Lib.hid h5.rng
          have B5 := Lib.hid (B4.out.drawn h5.cur h5.only)
          have R5 := Lib.hid h5.row
          obtain ⟨U5, uc5, rfl⟩ := own_formS h5.row
          have HS := Lib.hid (below_any g 3 (by omega) (by omega) w5 B5.out.cur)
          clear h5 HBD B4
          go_wp2_with fail
          refine HS.out.mono ?_
          rintro e w6 ⟨sv, rfl, ⟨hs0, hs1⟩, hc6, hg6⟩
          have hs2 : sv ≤ 2 := by simpa using hs1
          have B6 := Lib.hid (B5.out.drawn hc6 hg6)
          have R6 := Lib.hid (row_same R5.out (fun q hq => hg6.block q (World.ownsRow.lt R5.out q hq).2 (fun e => by injection e with e; have h1 := (World.ownsRow.lt R5.out q hq).1; have h2 := HGW.out; omega)))
          clear hc6 hg6 HS B5 R5 hs1
          have hsv : sv = 0 ∨ sv = 1 ∨ sv = 2 := by omega
          clear hs0 hs2
          rcases hsv with rfl | rfl | rfl
          · have HY := Lib.hid (below_any g 4 (by omega) (by omega) w6 B6.out.cur)
            go_wp2_with fail
            refine HY.out.mono ?_
            rintro e w7 ⟨yv, rfl, ⟨hy0, hy1⟩, hc7, hg7⟩
            have hy2 : yv ≤ 3 := by simpa using hy1
            have wy : IntKind.i32.wrap yv = yv := IntWalk.i32_in _ (by omega)
            have B6b := Lib.hid (B6.out.drawn hc7 hg7)
            have R6b := Lib.hid (row_same R6.out (fun q hq => hg7.block q (World.ownsRow.lt R6.out q hq).2 (fun e => by injection e with e; have h1 := (World.ownsRow.lt R6.out q hq).1; have h2 := HGW.out; omega)))
            clear B6 R6 hc7 hg7 HY hy1
            have B6 := B6b
            have R6 := R6b
            clear B6b R6b
            have B6A := Lib.hid (B6.out.alloc (.cells #[.int .i64 0, .int .i32 yv, .int .i64 6, .int .i32 0] 70))
            have SRC := Lib.hid (src_four w7 (.int .i64 0) (.int .i32 yv) (.int .i64 6) (.int .i32 0))
            have R6A := Lib.hid (R6.out.alloc (.cells #[.int .i64 0, .int .i32 yv, .int .i64 6, .int .i32 0] 70))
            go_wp2_with (at_builtin; refine wpList_append_src rfl _ _ 57 rfl w.heap.size 70 i0 (.agg #[.int .i64 0, .int .i32 0]) 2 16 Tryz.underlying57 hi0 hz0 hz1 hz2 rfl (by decide) _ x3.length _ rfl (B6A.out.row) _ 2 [.int .i64 0, .int .i32 yv, .int .i64 6, .int .i32 0] rfl SRC.out (by simp [Value.oneCell']) (by have := B6A.out.len; unfold maxLen; omega) (by have := B6A.out.len; omega) (by have := B6A.out.only.size; omega) ?_; intro v11 w11 ho11 ha11; refine unstop ?_)
            refine Stop.go ?_
            have B7 := Lib.hid (B6A.out.app (ys := [(0, yv), (6, 0)]) ho11 ha11.out rfl (rng_two (by omega) (by decide)) (C := i * (4 + bndB D) + 1 + 2) (by omega))
            have R7 := Lib.hid (row_same R6A.out (fun q hq => ha11.out.grown.block q (World.ownsRow.lt R6A.out q hq).2 (fun e => by have h1 := (World.ownsRow.lt R6A.out q hq).1; have h2 := HMB.out q e.symm; omega)))
            obtain ⟨x7, hx7⟩ : ∃ z, x3 ++ [(0, yv), (6, 0)] = z := ⟨_, rfl⟩
            rw [hx7] at B7
            obtain ⟨E11, ec11, rfl⟩ := own_formS B7.out.row
            clear ho11 ha11 hx7 SRC B6 B6A R6 R6A HMB
            have SRK := Lib.hid (src_row R7.out)
            go_wp2_with (at_builtin; refine wpList_append_src rfl _ _ 57 rfl w.heap.size 70 i0 (.agg #[.int .i64 0, .int .i32 0]) 2 16 Tryz.underlying57 hi0 hz0 hz1 hz2 rfl (by decide) _ x7.length _ rfl (B7.out.row) _ x5.length (slv x5) rfl SRK.out (slv_ones _) (by have := B7.out.len; have := HL5.out; unfold maxLen; omega) (by have := B7.out.len; have := HL5.out; omega) (by have := B7.out.only.size; omega) ?_; intro v12 w12 ho12 ha12; refine unstop ?_)
            refine Stop.go ?_
            have B8 := Lib.hid (B7.out.app (ys := x5) ho12 ha12.out rfl HX5.out (C := i * (4 + bndB D) + 1 + 2 + bndB D) (by have := HL5.out; omega))
            obtain ⟨x8, hx8⟩ : ∃ z, x7 ++ x5 = z := ⟨_, rfl⟩
            rw [hx8] at B8
            obtain ⟨E12, ec12, rfl⟩ := own_formS B8.out.row
            clear ho12 ha12 hx8 SRK B7 R7
            have B8A := Lib.hid (B8.out.alloc (.cells #[.int .i64 7, .int .i32 0] 70))
            have SRC := Lib.hid (src_two w12 (.int .i64 7) (.int .i32 0))
            go_wp2_with (at_builtin; refine wpList_append_src rfl _ _ 57 rfl w.heap.size 70 i0 (.agg #[.int .i64 0, .int .i32 0]) 2 16 Tryz.underlying57 hi0 hz0 hz1 hz2 rfl (by decide) _ x8.length _ rfl (B8A.out.row) _ 1 [.int .i64 7, .int .i32 0] rfl SRC.out (by simp [Value.oneCell']) (by have := B8A.out.len; unfold maxLen; omega) (by have := B8A.out.len; omega) (by have := B8A.out.only.size; omega) ?_; intro v13 w13 ho13 ha13; refine unstop ?_)
            refine Stop.go ?_
            have B10 := Lib.hid (B8A.out.app (ys := [(7, 0)]) ho13 ha13.out rfl (rng_one (by decide)) (C := i * (4 + bndB D) + 1 + 2 + bndB D + 1) (by omega))
            obtain ⟨x10, hx10⟩ : ∃ z, x8 ++ [(7, 0)] = z := ⟨_, rfl⟩
            rw [hx10] at B10
            obtain ⟨E13, ec13, rfl⟩ := own_formS B10.out.row
            clear ho13 ha13 hx10 SRC B8 B8A HX5 HL5
            go_wp2_with fail
            go_roundw
            case rel => exact ⟨i + 1, _, x10, by go_num, rfl, by omega, Lib.hid (B10.out.more (by rw [hsu]; omega))⟩
            case measure => simp [intOf]; omega
          · have B6A := Lib.hid (B6.out.alloc (.cells #[.int .i64 3, .int .i32 0] 70))
            have SRC := Lib.hid (src_two w6 (.int .i64 3) (.int .i32 0))
            have R6A := Lib.hid (R6.out.alloc (.cells #[.int .i64 3, .int .i32 0] 70))
            go_wp2_with (at_builtin; refine wpList_append_src rfl _ _ 57 rfl w.heap.size 70 i0 (.agg #[.int .i64 0, .int .i32 0]) 2 16 Tryz.underlying57 hi0 hz0 hz1 hz2 rfl (by decide) _ x3.length _ rfl (B6A.out.row) _ 1 [.int .i64 3, .int .i32 0] rfl SRC.out (by simp [Value.oneCell']) (by have := B6A.out.len; unfold maxLen; omega) (by have := B6A.out.len; omega) (by have := B6A.out.only.size; omega) ?_; intro v11 w11 ho11 ha11; refine unstop ?_)
            refine Stop.go ?_
            have B7 := Lib.hid (B6A.out.app (ys := [(3, 0)]) ho11 ha11.out rfl (rng_one (by decide)) (C := i * (4 + bndB D) + 1 + 1) (by omega))
            have R7 := Lib.hid (row_same R6A.out (fun q hq => ha11.out.grown.block q (World.ownsRow.lt R6A.out q hq).2 (fun e => by have h1 := (World.ownsRow.lt R6A.out q hq).1; have h2 := HMB.out q e.symm; omega)))
            obtain ⟨x7, hx7⟩ : ∃ z, x3 ++ [(3, 0)] = z := ⟨_, rfl⟩
            rw [hx7] at B7
            obtain ⟨E11, ec11, rfl⟩ := own_formS B7.out.row
            clear ho11 ha11 hx7 SRC B6 B6A R6 R6A HMB
            have SRK := Lib.hid (src_row R7.out)
            go_wp2_with (at_builtin; refine wpList_append_src rfl _ _ 57 rfl w.heap.size 70 i0 (.agg #[.int .i64 0, .int .i32 0]) 2 16 Tryz.underlying57 hi0 hz0 hz1 hz2 rfl (by decide) _ x7.length _ rfl (B7.out.row) _ x5.length (slv x5) rfl SRK.out (slv_ones _) (by have := B7.out.len; have := HL5.out; unfold maxLen; omega) (by have := B7.out.len; have := HL5.out; omega) (by have := B7.out.only.size; omega) ?_; intro v12 w12 ho12 ha12; refine unstop ?_)
            refine Stop.go ?_
            have B8 := Lib.hid (B7.out.app (ys := x5) ho12 ha12.out rfl HX5.out (C := i * (4 + bndB D) + 1 + 1 + bndB D) (by have := HL5.out; omega))
            obtain ⟨x8, hx8⟩ : ∃ z, x7 ++ x5 = z := ⟨_, rfl⟩
            rw [hx8] at B8
            obtain ⟨E12, ec12, rfl⟩ := own_formS B8.out.row
            clear ho12 ha12 hx8 SRK B7 R7
            have B8A := Lib.hid (B8.out.alloc (.cells #[.int .i64 5, .int .i32 0] 70))
            have SRC := Lib.hid (src_two w12 (.int .i64 5) (.int .i32 0))
            go_wp2_with (at_builtin; refine wpList_append_src rfl _ _ 57 rfl w.heap.size 70 i0 (.agg #[.int .i64 0, .int .i32 0]) 2 16 Tryz.underlying57 hi0 hz0 hz1 hz2 rfl (by decide) _ x8.length _ rfl (B8A.out.row) _ 1 [.int .i64 5, .int .i32 0] rfl SRC.out (by simp [Value.oneCell']) (by have := B8A.out.len; unfold maxLen; omega) (by have := B8A.out.len; omega) (by have := B8A.out.only.size; omega) ?_; intro v13 w13 ho13 ha13; refine unstop ?_)
            refine Stop.go ?_
            have B10 := Lib.hid (B8A.out.app (ys := [(5, 0)]) ho13 ha13.out rfl (rng_one (by decide)) (C := i * (4 + bndB D) + 1 + 1 + bndB D + 1) (by omega))
            obtain ⟨x10, hx10⟩ : ∃ z, x8 ++ [(5, 0)] = z := ⟨_, rfl⟩
            rw [hx10] at B10
            obtain ⟨E13, ec13, rfl⟩ := own_formS B10.out.row
            clear ho13 ha13 hx10 SRC B8 B8A HX5 HL5
            go_wp2_with fail
            go_roundw
            case rel => exact ⟨i + 1, _, x10, by go_num, rfl, by omega, Lib.hid (B10.out.more (by rw [hsu]; omega))⟩
            case measure => simp [intOf]; omega
          · have B6A := Lib.hid (B6.out.alloc (.cells #[.int .i64 4, .int .i32 0] 70))
            have SRC := Lib.hid (src_two w6 (.int .i64 4) (.int .i32 0))
            have R6A := Lib.hid (R6.out.alloc (.cells #[.int .i64 4, .int .i32 0] 70))
            go_wp2_with (at_builtin; refine wpList_append_src rfl _ _ 57 rfl w.heap.size 70 i0 (.agg #[.int .i64 0, .int .i32 0]) 2 16 Tryz.underlying57 hi0 hz0 hz1 hz2 rfl (by decide) _ x3.length _ rfl (B6A.out.row) _ 1 [.int .i64 4, .int .i32 0] rfl SRC.out (by simp [Value.oneCell']) (by have := B6A.out.len; unfold maxLen; omega) (by have := B6A.out.len; omega) (by have := B6A.out.only.size; omega) ?_; intro v11 w11 ho11 ha11; refine unstop ?_)
            refine Stop.go ?_
            have B7 := Lib.hid (B6A.out.app (ys := [(4, 0)]) ho11 ha11.out rfl (rng_one (by decide)) (C := i * (4 + bndB D) + 1 + 1) (by omega))
            have R7 := Lib.hid (row_same R6A.out (fun q hq => ha11.out.grown.block q (World.ownsRow.lt R6A.out q hq).2 (fun e => by have h1 := (World.ownsRow.lt R6A.out q hq).1; have h2 := HMB.out q e.symm; omega)))
            obtain ⟨x7, hx7⟩ : ∃ z, x3 ++ [(4, 0)] = z := ⟨_, rfl⟩
            rw [hx7] at B7
            obtain ⟨E11, ec11, rfl⟩ := own_formS B7.out.row
            clear ho11 ha11 hx7 SRC B6 B6A R6 R6A HMB
            have SRK := Lib.hid (src_row R7.out)
            go_wp2_with (at_builtin; refine wpList_append_src rfl _ _ 57 rfl w.heap.size 70 i0 (.agg #[.int .i64 0, .int .i32 0]) 2 16 Tryz.underlying57 hi0 hz0 hz1 hz2 rfl (by decide) _ x7.length _ rfl (B7.out.row) _ x5.length (slv x5) rfl SRK.out (slv_ones _) (by have := B7.out.len; have := HL5.out; unfold maxLen; omega) (by have := B7.out.len; have := HL5.out; omega) (by have := B7.out.only.size; omega) ?_; intro v12 w12 ho12 ha12; refine unstop ?_)
            refine Stop.go ?_
            have B8 := Lib.hid (B7.out.app (ys := x5) ho12 ha12.out rfl HX5.out (C := i * (4 + bndB D) + 1 + 1 + bndB D) (by have := HL5.out; omega))
            obtain ⟨x8, hx8⟩ : ∃ z, x7 ++ x5 = z := ⟨_, rfl⟩
            rw [hx8] at B8
            obtain ⟨E12, ec12, rfl⟩ := own_formS B8.out.row
            clear ho12 ha12 hx8 SRK B7 R7
            have B8A := Lib.hid (B8.out.alloc (.cells #[.int .i64 5, .int .i32 0] 70))
            have SRC := Lib.hid (src_two w12 (.int .i64 5) (.int .i32 0))
            go_wp2_with (at_builtin; refine wpList_append_src rfl _ _ 57 rfl w.heap.size 70 i0 (.agg #[.int .i64 0, .int .i32 0]) 2 16 Tryz.underlying57 hi0 hz0 hz1 hz2 rfl (by decide) _ x8.length _ rfl (B8A.out.row) _ 1 [.int .i64 5, .int .i32 0] rfl SRC.out (by simp [Value.oneCell']) (by have := B8A.out.len; unfold maxLen; omega) (by have := B8A.out.len; omega) (by have := B8A.out.only.size; omega) ?_; intro v13 w13 ho13 ha13; refine unstop ?_)
            refine Stop.go ?_
            have B10 := Lib.hid (B8A.out.app (ys := [(5, 0)]) ho13 ha13.out rfl (rng_one (by decide)) (C := i * (4 + bndB D) + 1 + 1 + bndB D + 1) (by omega))
            obtain ⟨x10, hx10⟩ : ∃ z, x8 ++ [(5, 0)] = z := ⟨_, rfl⟩
            rw [hx10] at B10
            obtain ⟨E13, ec13, rfl⟩ := own_formS B10.out.row
            clear ho13 ha13 hx10 SRC B8 B8A HX5 HL5
            go_wp2_with fail
            go_roundw
            case rel => exact ⟨i + 1, _, x10, by go_num, rfl, by omega, Lib.hid (B10.out.more (by rw [hsu]; omega))⟩
            case measure => simp [intOf]; omega
      · obtain rfl : i = k := by omega
        have hp2 : ¬ (i : Int) < (i : Int) := by omega
        have HO := Lib.hid (once_any g 4 (by omega) _ BR.out.cur)
        clear hp hi
        go_wp2_with fail
        refine HO.out.mono ?_
        rintro e w2 ⟨b, rfl, hc2, hg2⟩
        have B2 := Lib.hid (BR.out.drawn hc2 hg2)
        have hk44 : i * (4 + bndB D) ≤ 4 * (4 + bndB D) := Nat.mul_le_mul_right _ hk4
        clear hc2 hg2 HO BR
        cases b with
        | false =>
          go_wp2_with fail
          go_ret
          exact ⟨_, xs, rfl, B2.out.more (by show _ ≤ 4 * (4 + bndB D) + 1; omega)⟩
        | true =>
          have B2A := Lib.hid (B2.out.alloc (.cells #[.int .i64 8, .int .i32 0] 70))
          have SRC := Lib.hid (src_two w2 (.int .i64 8) (.int .i32 0))
          go_wp2_with (at_builtin; refine wpList_append_src rfl _ _ 57 rfl w.heap.size 70 i0 (.agg #[.int .i64 0, .int .i32 0]) 2 16 Tryz.underlying57 hi0 hz0 hz1 hz2 rfl (by decide) _ xs.length _ rfl (B2A.out.row) _ 1 [.int .i64 8, .int .i32 0] rfl SRC.out (by simp [Value.oneCell']) (by have := B2A.out.len; unfold maxLen; omega) (by have := B2A.out.len; omega) (by have := B2A.out.only.size; omega) ?_; intro v9 w9 ho9 ha9; refine unstop ?_)
          refine Stop.go ?_
          have B3 := Lib.hid (B2A.out.app (ys := [(8, 0)]) ho9 ha9.out rfl (rng_one (by decide)) (C := 4 * (4 + bndB D) + 1) (by omega))
          clear ho9 ha9 SRC
          go_wp2_with fail
          go_ret
          exact ⟨_, _, rfl, B3.out⟩
end Go.Proofs.YtofikgjoiidhmaaGreatDoor
