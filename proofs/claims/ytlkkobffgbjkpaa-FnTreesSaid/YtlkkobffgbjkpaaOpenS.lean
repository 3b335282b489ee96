/-
  spec.l09Open: what a body leaves open.
-/
import Derived.Test.YtlkkobffgbjkpaaOpMath
import Derived.Test.YtlkkobffgbjkpaaOpW
import Derived.Test.YtlkkobffgbjkpaaI64
import Derived.Test.YtlkkobffgbjkpaaAppend
import Derived.Test.YtlkkobffgbjkpaaPrimName
import Derived.Test.YtlkkobffgbjkpaaStackOp
import Derived.IntWalk
namespace Go.Proofs.Ytlkkobffgbjkpaa
open Go.RowKit Go

theorem own_prefixL {w : World} {lo sz : Nat} {e : TypeId} {A : Option Addr} {N cap n : Nat} {xs : List Value} (h : w.ownsRow lo e sz (.slice A N cap) N xs) (hn : n ≤ N) : w.ownsRow lo e sz (.slice A n cap) n (xs.take (n * sz)) := by
  have hl := h.1
  have hm := Nat.mul_le_mul_right sz hn
  refine ⟨by rw [List.length_take]; omega, ?_⟩
  rcases h.2 with ⟨e1, h0⟩ | ⟨g, cp, cur, e1, hb, hg, hnc, hm2, hsz, ht⟩
  · injection e1 with e1 e2 e3
    subst e1 e3
    exact .inl ⟨by rw [show n = 0 by omega], by omega⟩
  · injection e1 with e1 e2 e3
    subst e1 e3
    refine .inr ⟨g, cap, cur, rfl, hb, hg, by omega, hm2, hsz, ?_⟩
    rw [← ht, List.take_take]
    congr 1
    omega
/-- What l09Open tells. -/
def OpenEnd (xs : List (Int × Int)) (w : World) (e : Ending) (w' : World) : Prop :=
  (∃ st v, openG xs [] = some st ∧ e = .returned (.tuple #[v, .bool true]) ∧ (∃ A cap, v = .slice A st.length cap) ∧ Below w.heap.size w w') ∨ (openG xs [] = none ∧ e = .returned (.tuple #[.slice none 0 0, .bool false]) ∧ Below w.heap.size w w')
theorem openG_len : ∀ (xs : List (Int × Int)) (st st2 : List Int), openG xs st = some st2 → st2.length ≤ st.length + xs.length := by
  intro xs
  induction xs with
  | nil => intro st st2 h; simp [openG] at h; simp [h]
  | cons o r ih =>
    intro st st2 h
    unfold openG at h
    split at h
    · have := ih _ _ h; simp at this ⊢; omega
    · split at h
      · split at h
        · cases h
        · split at h
          · have := ih _ _ h; simp at this ⊢; omega
          · cases h
      · have := ih _ _ h; simp at this ⊢; omega
theorem open_push {o : Int × Int} {r : List (Int × Int)} {st : List Int} (h : o.1 = 3 ∨ o.1 = 4 ∨ o.1 = 6) : openG (o :: r) st = openG r (st ++ [o.1]) := by rw [openG, if_pos h]
theorem open_skip {o : Int × Int} {r : List (Int × Int)} {st : List Int} (h : ¬ (o.1 = 3 ∨ o.1 = 4 ∨ o.1 = 6)) (h2 : ¬ (o.1 = 5 ∨ o.1 = 7)) : openG (o :: r) st = openG r st := by rw [openG, if_neg h, if_neg h2]
theorem open_none {o : Int × Int} {r : List (Int × Int)} (h2 : o.1 = 5 ∨ o.1 = 7) : openG (o :: r) [] = none := by rw [openG, if_neg (by omega), if_pos h2]; rfl
theorem open_pop {o : Int × Int} {r : List (Int × Int)} {st : List Int} {k : Int} (h2 : o.1 = 5 ∨ o.1 = 7) : openG (o :: r) (st ++ [k]) = if (k = 6 ↔ o.1 = 7) then openG r st else none := by
  rw [openG, if_neg (by omega), if_pos h2]
  simp
set_option maxRecDepth 100000 in
set_option maxHeartbeats 4000000 in
theorem spec_open (xs : List (Int × Int)) (hl : xs.length ≤ 60) (v : Value) (w : World) (hr : RdS w v xs) : Calls Try.prog 46 #[v] w (OpenEnd xs w) := by
  obtain ⟨A, cap, rfl⟩ := hr.form
  obtain ⟨i0, hi0, hz0, hz1, hz2⟩ := info_parts infoL
  obtain ⟨R, hR⟩ : ∃ R, openG xs [] = R := ⟨_, rfl⟩
  unfold OpenEnd
  rw [hR]
  obtain ⟨N, hN⟩ : ∃ N, xs.length = N := ⟨_, rfl⟩
  have hN60 : N ≤ 60 := by omega
  have HR := Lib.hid (fun W (h : Below w.heap.size w W) => hr.below h)
  have HRR := Lib.hid hR
  have HN := Lib.hid hN
  rw [hN]
  have hb0 := below_alloc1 w (.cells #[] 3)
  clear hr hR hN hl
  go_enter Try.func46, Try.ntmps46
  go_wp2_with fail
  go_loopw [4, 5] (fun vo vi wr => ∃ (i : Nat) (st : List Int), vi = .int .i64 i ∧ i ≤ N ∧ st.length ≤ i ∧ Hid (Below w.heap.size w wr) ∧ Hid (openG (xs.drop i) st = R) ∧ wr.ownsRow w.heap.size 3 1 vo st.length (st.map lv)) (fun _ vi _ => N - (intOf vi).toNat)
  case atStart => exact ⟨0, [], rfl, by omega, by simp, Lib.hid hb0, HRR, own_empty w _⟩
  case round =>
    obtain ⟨i, st, rfl, hi, hst, HB, HO, ho⟩ := hrel
    obtain ⟨D, dc, rfl⟩ := own_formS ho
    clear hb0 HRR
    by_cases hp : i < N
    · obtain ⟨a, rfl, la, p0, p1⟩ := (HR.out wr HB.out).item (i := i) (by rw [HN.out]; exact hp)
      obtain ⟨x, hx⟩ : ∃ x, xs[i]'(by rw [HN.out]; exact hp) = x := ⟨_, rfl⟩
      obtain ⟨k, n⟩ := x
      have hd : xs.drop i = (k, n) :: xs.drop (i + 1) := by rw [List.drop_eq_getElem_cons (by rw [HN.out]; exact hp), hx]
      rw [hx] at p0
      rw [hd] at HO
      have i1 : (0 : Int) ≤ (i : Int) := by omega
      have i2 : (i : Int) < (N : Int) := by omega
      clear hx hd p1 la
      by_cases h3 : k = 3 ∨ k = 4 ∨ k = 6
      · rw [open_push h3] at HO
        have HO2 := Lib.hid ho
        have hsz := HB.out.size
        clear ho
        rcases h3 with rfl | rfl | rfl
        all_goals
          go_wp2_with (at_builtin; refine wpList_append_own _ rfl _ _ 53 rfl w.heap.size 3 i0 (.int .i64 0) 1 8 Try.underlying53 hi0 hz0 hz1 hz2 rfl (by decide) _ _ _ rfl (HO2.out.alloc _) ⟨wr.heap.size, 0, none⟩ 1 1 [.int .i64 _] rfl rfl (cell_one_new _ _ _) (by simp [Value.oneCell']) (by unfold maxLen; omega) (by omega) (by simp; omega) ?_; intro v2 w9 hown9 hgr9 hif; clear hif)
          have HB9 : Hid (Below w.heap.size w w9) := Lib.hid ((HB.out.alloc HB.out.size _).grown hgr9 (by simp; omega) (fun k hk => by have := own_lt HO2.out k hk; omega))
          have HR9 := Lib.hid hown9
          clear hown9 hgr9
          go_roundw
          case rel => exact ⟨i + 1, _, by go_num, by omega, by rw [List.length_append]; simp; omega, HB9, HO, by rw [List.length_append, List.map_append]; exact HR9.out⟩
          case measure => simp [intOf]; omega
      by_cases h5 : k = 5 ∨ k = 7
      · rcases List.eq_nil_or_concat st with rfl | ⟨l, q, rfl⟩
        · rw [open_none h5] at HO
          have HE : Hid (R = none) := Lib.hid HO.out.symm
          clear ho HO
          simp only [List.length_nil]
          rcases h5 with rfl | rfl
          all_goals
            go_wp2_with fail
            go_ret2
            exact .inr ⟨HE.out, rfl, HB.out⟩
        · simp only [List.concat_eq_append] at hst ho HO ⊢
          have hm : (l ++ [q]).length = l.length + 1 := by simp
          obtain ⟨m, hm2⟩ : ∃ m, l.length = m := ⟨_, rfl⟩
          rw [hm2] at hm
          rw [hm] at ho hst ⊢
          rw [open_pop h5] at HO
          have hgs : ∃ g, D = some ⟨g, 0, none⟩ ∧ m + 1 ≤ dc := by
            rcases ho.2 with ⟨e, h0⟩ | ⟨g, cp, cur, e, hb, hg, hnc, -⟩
            · omega
            · injection e with e1 e2 e3
              exact ⟨g, e1, by omega⟩
          obtain ⟨g, rfl, hdc⟩ := hgs
          have c0 : wr.cell? ⟨g, m, none⟩ = some (.int .i64 q) := by
            rw [ho.cellAt m (by omega), List.map_append, List.getElem?_append_right (by simp [hm2]), List.length_map, hm2, Nat.sub_self]
            rfl
          have hpre := own_prefixL (n := m) ho (by omega)
          have e0 : ((l ++ [q]).map lv).take (m * 1) = l.map lv := by rw [Nat.mul_one, List.map_append, List.take_append_of_le_length (by simp [hm2]), List.take_of_length_le (by simp [hm2])]
          rw [e0] at hpre
          have HP := Lib.hid hpre
          have hkk : m ≤ 1000 := by omega
          have j1 : (0 : Int) ≤ (m : Int) := by omega
          have j2 : (m : Int) < (m : Int) + 1 := by omega
          have wz : IntKind.i64.wrap ((m : Int) + 1 - 1) = (m : Int) := by rw [show (m : Int) + 1 - 1 = (m : Int) by omega]; exact IntWalk.i64_in _ (by omega)
          have wy : (m : Int) + 1 - 1 = (m : Int) := by omega
          have wk : IntKind.i64.wrap (m : Int) = (m : Int) := IntWalk.i64_in _ (by omega)
          have hle : m ≤ dc := by omega
          have hn0 : ((m : Int) + 1 == 0) = false := by simp; omega
          have HL := Lib.hid hm2
          clear hpre e0 ho hdc hm hm2
          by_cases hq : q = 6
          · subst hq
            rcases h5 with rfl | rfl
            · have HE : Hid (R = none) := Lib.hid (by rw [← HO.out]; rfl)
              clear HO HP
              go_wp2_with fail
              go_ret2
              exact .inr ⟨HE.out, rfl, HB.out⟩
            · have HO3 : Hid (openG (List.drop (i + 1) xs) l = R) := Lib.hid HO.out
              clear HO
              go_wp2_with fail
              go_roundw
              case rel => exact ⟨i + 1, l, by go_num, by omega, by have := HL.out; omega, HB, HO3, by rw [HL.out]; exact HP.out⟩
              case measure => simp [intOf]; omega
          · have q6 : (q == 6) = false := by simpa using hq
            rcases h5 with rfl | rfl
            · have HO3 : Hid (openG (List.drop (i + 1) xs) l = R) := Lib.hid (by rw [← HO.out, if_pos (by simp; omega)])
              clear HO hq
              go_wp2_with fail
              go_roundw
              case rel => exact ⟨i + 1, l, by go_num, by omega, by have := HL.out; omega, HB, HO3, by rw [HL.out]; exact HP.out⟩
              case measure => simp [intOf]; omega
            · have HE : Hid (R = none) := Lib.hid (by rw [← HO.out, if_neg (by simp; omega)])
              clear HO HP hq
              go_wp2_with fail
              go_ret2
              exact .inr ⟨HE.out, rfl, HB.out⟩
      · rw [open_skip h3 h5] at HO
        have q3 : (k == 3) = false := by simp; omega
        have q4 : (k == 4) = false := by simp; omega
        have q6 : (k == 6) = false := by simp; omega
        have q5 : (k == 5) = false := by simp; omega
        have q7 : (k == 7) = false := by simp; omega
        have HO2 := Lib.hid ho
        clear ho h3 h5
        go_wp2_with fail
        go_roundw
        case rel => exact ⟨i + 1, st, by go_num, by omega, by omega, HB, HO, HO2.out⟩
        case measure => simp [intOf]; omega
    · obtain rfl : i = N := by omega
      have HE : Hid (R = some st) := Lib.hid (by have := HO.out; rw [List.drop_of_length_le (by rw [HN.out]; exact Nat.le_refl _)] at this; exact this.symm)
      clear HO ho
      go_wp2_with fail
      go_ret2
      exact .inl ⟨st, _, HE.out, rfl, ⟨_, _, rfl⟩, HB.out⟩
end Go.Proofs.Ytlkkobffgbjkpaa
