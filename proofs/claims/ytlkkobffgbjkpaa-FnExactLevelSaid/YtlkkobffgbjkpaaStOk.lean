/-
  Whether a state is right: the model's answer and the program's.
-/
import Derived.Test.YtlkkobffgbjkpaaStPut
import Derived.Test.YtlkkobffgbjkpaaHasBlk
namespace Go.Proofs.Ytlkkobffgbjkpaa
open Go.RowKit Go

theorem RdL.at {w : World} {A : Option Addr} {n cap : Nat} {xs : List Int} (h : RdL w (.slice A n cap) xs) {i : Nat} (hi : i < xs.length) : ∃ a, A = some a ∧ a.block < w.heap.size ∧ w.cell? (a.add i) = some (.int .i64 xs[i]) := by
  obtain ⟨A3, c4, hv4, -, hc4⟩ := h
  injection hv4 with e1 e2 e3
  subst e1 e3
  exact hc4 i hi
theorem RdL.len {w : World} {v : Value} {xs : List Int} (h : RdL w v xs) : xs.length ≤ 4611686018427387904 := by
  obtain ⟨_, _, _, h, _⟩ := h
  exact h
theorem RdL.take {w : World} {A : Option Addr} {n cap : Nat} {xs : List Int} (h : RdL w (.slice A n cap) xs) {k : Nat} (hk : k ≤ xs.length) : RdL w (.slice A k cap) (xs.take k) := by
  have hl := h.len
  have e : (xs.take k).length = k := by simp; omega
  refine ⟨A, cap, by rw [e], by omega, fun i hi => ?_⟩
  obtain ⟨a, h1, h2, h3⟩ := h.at (i := i) (by omega)
  exact ⟨a, h1, h2, by rw [h3]; simp [lv]⟩
/-- Where a number stands, if it does. -/
def IdxEnd (xs : List Int) (x : Int) (w : World) (e : Ending) (w' : World) : Prop := ∃ n : Int, e = .returned (.int .i64 n) ∧ decide (0 ≤ n) = decide (x ∈ xs) ∧ w = w'
theorem not_take_succ {xs : List Int} {x : Int} {i : Nat} (hp : i < xs.length) (h : x ∉ xs.take i) (he : xs[i] ≠ x) : x ∉ xs.take (i + 1) := by
  rw [List.take_succ_eq_append_getElem hp]
  intro hm
  rcases List.mem_append.1 hm with h1 | h1
  · exact h h1
  · exact he (List.mem_singleton.1 h1).symm
set_option maxHeartbeats 1000000 in
theorem index_any (v : Value) (xs : List Int) (x : Int) (w : World) (hr : RdL w v xs) : Calls Try.prog 123 #[v, .int .i64 x] w (IdxEnd xs x w) := by
  obtain ⟨A, cap, rfl⟩ := hr.form
  have hl := hr.len
  have HR := Lib.hid hr
  clear hr
  go_enter Try.func123, Try.ntmps123
  go_wp2
  go_loop [8] (fun vi => ∃ i : Nat, vi = .int .i64 i ∧ i ≤ xs.length ∧ Hid (x ∉ xs.take i)) (fun vi => xs.length - (intOf vi).toNat)
  case atStart => exact ⟨0, rfl, by omega, Lib.hid (by simp)⟩
  case round =>
    obtain ⟨i, rfl, hi, HN⟩ := hrel
    by_cases hp : i < xs.length
    · obtain ⟨a, rfl, -, hc⟩ := HR.out.at hp
      have i1 : (0 : Int) ≤ (i : Int) := by omega
      have i2 : (i : Int) < (xs.length : Int) := by omega
      obtain ⟨y, hy⟩ : ∃ y, xs[i] = y := ⟨_, rfl⟩
      rw [hy] at hc
      by_cases he : y = x
      · have he' : (x == y) = true := by simp [he]
        have HD : Hid (decide (0 ≤ (i : Int)) = decide (x ∈ xs)) := Lib.hid (by rw [decide_eq_true i1, decide_eq_true (by rw [← he, ← hy]; exact List.getElem_mem _)])
        clear he hy
        go_wp2
        go_ret
        exact ⟨_, rfl, HD.out, rfl⟩
      · have he' : (x == y) = false := by simp; exact fun e => he e.symm
        have HN2 : Hid (x ∉ xs.take (i + 1)) := Lib.hid (not_take_succ hp HN.out (by rw [hy]; exact he))
        clear he hy
        go_wp2
        go_round
        case rel => exact ⟨i + 1, by go_num, by omega, HN2⟩
        case measure => simp [intOf]; omega
    · have HD : Hid (decide (0 ≤ (-1 : Int)) = decide (x ∈ xs)) := Lib.hid (by
        have h := HN.out
        rw [List.take_of_length_le (by omega)] at h
        rw [decide_eq_false h]
        rfl)
      go_wp2
      go_ret
      exact ⟨_, rfl, HD.out, rfl⟩
theorem contains_any (v : Value) (xs : List Int) (x : Int) (w : World) (hr : RdL w v xs) : Calls Try.prog 120 #[v, .int .i64 x] w fun e w' => e = .returned (.bool (decide (x ∈ xs))) ∧ w = w' := by
  have HI := Lib.hid (index_any v xs x w hr)
  obtain ⟨A, cap, rfl⟩ := hr.form
  obtain ⟨q, hq⟩ : ∃ q, decide (x ∈ xs) = q := ⟨_, rfl⟩
  unfold IdxEnd at HI
  rw [hq] at HI ⊢
  clear hr hq
  go_enter Try.func120, Try.ntmps120
  go_wp2_with fail
  refine HI.out.mono ?_
  rintro e w' ⟨n, rfl, hd, rfl⟩
  have HD := Lib.hid hd
  clear hd HI
  go_wp2_with fail
  go_ret
  exact ⟨by rw [← HD.out]; rfl, rfl⟩

theorem kindsB_no {r : List (Int × Int)} {i : Nat} (h : i < r.length) (hb : ¬ (0 ≤ (r[i]).1 ∧ (r[i]).1 ≤ 2)) : kindsB r = false := decide_eq_false fun e => hb (e i h)
set_option maxHeartbeats 1000000 in
theorem impl_slotsok (v : Value) (xs : List (Int × Int)) (w : World) (hr : RdS w v xs) : Calls Try.prog 107 #[v] w fun e w' => e = .returned (.bool (decide (xs.length ≤ 24) && kindsB xs)) ∧ Below w.heap.size w w' := by
  obtain ⟨A, cap, rfl⟩ := hr.form
  have hl : xs.length ≤ 4611686018427387904 := by obtain ⟨_, _, _, h, _⟩ := hr; exact h
  have HR := Lib.hid (fun W (h : Below w.heap.size w W) => hr.below h)
  clear hr
  by_cases h24 : xs.length ≤ 24
  · have h24' : ¬ (24 : Int) < (xs.length : Int) := by omega
    rw [decide_eq_true h24, Bool.true_and]
    go_enter Try.func107, Try.ntmps107
    go_wp2
    go_loopw [10] (fun vi wr => ∃ i : Nat, vi = .int .i64 i ∧ i ≤ xs.length ∧ Hid (∀ j (h : j < xs.length), j < i → 0 ≤ (xs[j]).1 ∧ (xs[j]).1 ≤ 2) ∧ Hid (Below w.heap.size w wr)) (fun vi _ => xs.length - (intOf vi).toNat)
    case atStart => exact ⟨0, rfl, by omega, Lib.hid (fun j _ h => by omega), Lib.hid (Below.refl _ _)⟩
    case round =>
      obtain ⟨i, rfl, hi, HN, HB⟩ := hrel
      by_cases hp : i < xs.length
      · obtain ⟨a, rfl, la, p0, p1⟩ := (HR.out wr HB.out).item hp
        have i1 : (0 : Int) ≤ (i : Int) := by omega
        have i2 : (i : Int) < (xs.length : Int) := by omega
        obtain ⟨y, hy⟩ : ∃ y, xs[i] = y := ⟨_, rfl⟩
        obtain ⟨k, z⟩ := y
        rw [hy] at p0 p1
        have HB2 := Lib.hid (HB.out.alloc HB.out.size (.cells #[.int .i64 k, .int .i32 z] 109))
        by_cases hk : 0 ≤ k ∧ k ≤ 2
        · obtain ⟨k0, k1⟩ := hk
          have q0 : ¬ k < 0 := by omega
          have q0' : decide (k < 0) = false := by simpa using k0
          have q1 : ¬ 2 < k := by omega
          have HN2 : Hid (∀ j (h : j < xs.length), j < i + 1 → 0 ≤ (xs[j]).1 ∧ (xs[j]).1 ≤ 2) := Lib.hid fun j hj h2 => by
            rcases Nat.lt_or_ge j i with h3 | h3
            · exact HN.out j hj h3
            · obtain rfl : j = i := by omega
              rw [hy]
              exact ⟨k0, k1⟩
          clear hy HN
          go_wp2
          go_roundw
          case rel => exact ⟨i + 1, by go_num, by omega, HN2, HB2⟩
          case measure => simp [intOf]; omega
        · have HK := Lib.hid (kindsB_no (r := xs) hp (by rw [hy]; exact hk))
          by_cases k0 : 0 ≤ k
          · have q0 : ¬ k < 0 := by omega
            have q0' : decide (k < 0) = false := by simpa using k0
            have q1 : 2 < k := by omega
            clear hy HN hk
            go_wp2
            go_ret
            exact ⟨by rw [HK.out]; rfl, HB2.out⟩
          · have q0 : k < 0 := by omega
            have q0' : decide (k < 0) = true := by simpa using q0
            clear hy HN hk
            go_wp2
            go_ret
            exact ⟨by rw [HK.out]; rfl, HB2.out⟩
      · have HK : Hid (kindsB xs = true) := Lib.hid (decide_eq_true fun j hj => HN.out j hj (by omega))
        go_wp2
        go_ret
        exact ⟨by rw [HK.out]; rfl, HB.out⟩
  · have h24' : (24 : Int) < (xs.length : Int) := by omega
    rw [decide_eq_false h24, Bool.false_and]
    clear h24
    go_enter Try.func107, Try.ntmps107
    go_wp2
    go_ret
    exact ⟨rfl, Below.refl _ _⟩

theorem varsB_no {v : List Int} {n i : Nat} (h : i < v.length) (hb : ¬ ((0 ≤ v[i] ∧ v[i] < (n : Int)) ∧ v[i] ∉ v.take i)) : varsB v n = false := decide_eq_false fun e => hb (e i h)
set_option maxRecDepth 100000 in
set_option maxHeartbeats 4000000 in
theorem impl_varsok (d r m c v o i : Value) (S : S8) (w : World) (hr : RdSt w d r m c v o i S) :
    Calls Try.prog 109 #[.agg #[d, r, .int .i32 S.a, m, c, v, o, i, .int .i64 S.fault, .int .i64 S.fuel]] w fun e w' => e = .returned (.bool (decide (S.vars.length ≤ 20) && varsB S.vars S.cells.length)) ∧ Below w.heap.size w w' := by
  have hform := hr.form
  obtain ⟨⟨A0, a0, rfl⟩, ⟨A1, a1, rfl⟩, ⟨A2, a2, rfl⟩, ⟨A3, a3, rfl⟩, ⟨A4, a4, rfl⟩, ⟨A5, a5, rfl⟩, ⟨A6, a6, rfl⟩⟩ := hform
  have hl := hr.v.len
  have HR := Lib.hid (fun W (h : Below w.heap.size w W) => (hr.below h).v)
  have hcap : S.vars.length ≤ a4 := hr.k _ _ _ rfl
  clear hr
  generalize S.data.length = n0
  generalize S.ret.length = n1
  generalize S.mem.length = n2
  generalize S.out.length = n5
  generalize S.inp.length = n6
  generalize S.cells.length = n3
  generalize S.vars = vs at hl HR hcap ⊢
  generalize S.a = z1
  generalize S.fault = z2
  generalize S.fuel = z3
  by_cases h20 : vs.length ≤ 20
  · have h20' : ¬ (20 : Int) < (vs.length : Int) := by omega
    rw [decide_eq_true h20, Bool.true_and]
    have HB0 := Lib.hid (below_alloc w (.cells #[.slice A0 n0 a0, .slice A1 n1 a1, .int .i32 z1, .slice A2 n2 a2, .slice A3 n3 a3, .slice A4 vs.length a4, .slice A5 n5 a5, .slice A6 n6 a6, .int .i64 z2, .int .i64 z3] 59))
    have HV := Lib.hid (HR.out _ HB0.out)
    clear HR
    go_enter Try.func109, Try.ntmps109
    go_wp2
    go_loop [12] (fun vi => ∃ i : Nat, vi = .int .i64 i ∧ i ≤ vs.length ∧ Hid (∀ j (h : j < vs.length), j < i → (0 ≤ vs[j] ∧ vs[j] < (n3 : Int)) ∧ vs[j] ∉ vs.take j)) (fun vi => vs.length - (intOf vi).toNat)
    case atStart => exact ⟨0, rfl, by omega, Lib.hid (fun j _ h => by omega)⟩
    case round =>
      obtain ⟨i, rfl, hi, HN⟩ := hrel
      by_cases hp : i < vs.length
      · obtain ⟨a, rfl, la, p0⟩ := HV.out.at hp
        have HC := Lib.hid (HV.out.take (k := i) (by omega))
        have hic : i ≤ a4 := by omega
        have hic2 : (i : Int) ≤ (a4 : Int) := by omega
        have i1 : (0 : Int) ≤ (i : Int) := by omega
        have i2 : (i : Int) < (vs.length : Int) := by omega
        obtain ⟨x, hx⟩ : ∃ x, vs[i] = x := ⟨_, rfl⟩
        rw [hx] at p0
        by_cases x0 : 0 ≤ x
        · have q0 : ¬ x < 0 := by omega
          have q0' : decide (x < 0) = false := by simpa using x0
          by_cases x1 : x < (n3 : Int)
          · have q1 : ¬ (n3 : Int) ≤ x := by omega
            have q1' : decide ((n3 : Int) ≤ x) = false := by simpa using x1
            by_cases x2 : x ∈ vs.take i
            · have HK := Lib.hid (varsB_no (n := n3) hp (fun h => h.2 (by rw [hx]; exact x2)))
              have HCC := Lib.hid (contains_any _ _ x _ HC.out)
              rw [decide_eq_true x2] at HCC
              clear hx HN x2 x0 x1
              go_wp2_with fail
              refine HCC.out.mono ?_
              rintro e w' ⟨rfl, rfl⟩
              go_wp2_with fail
              go_ret
              exact ⟨by rw [HK.out]; rfl, HB0.out⟩
            · have HN2 : Hid (∀ j (h : j < vs.length), j < i + 1 → (0 ≤ vs[j] ∧ vs[j] < (n3 : Int)) ∧ vs[j] ∉ vs.take j) := Lib.hid fun j hj h2 => by
                rcases Nat.lt_or_ge j i with h3 | h3
                · exact HN.out j hj h3
                · obtain rfl : j = i := by omega
                  rw [hx]
                  exact ⟨⟨x0, x1⟩, x2⟩
              have HCC := Lib.hid (contains_any _ _ x _ HC.out)
              rw [decide_eq_false x2] at HCC
              clear hx HN x2 x0 x1
              go_wp2_with fail
              refine HCC.out.mono ?_
              rintro e w' ⟨rfl, rfl⟩
              go_wp2_with fail
              go_round
              case rel => exact ⟨i + 1, by go_num, by omega, HN2⟩
              case measure => simp [intOf]; omega
          · have q1 : (n3 : Int) ≤ x := by omega
            have q1' : decide ((n3 : Int) ≤ x) = true := by simpa using q1
            have HK := Lib.hid (varsB_no (n := n3) hp (fun h => x1 (by rw [← hx]; exact h.1.2)))
            clear hx HN x0 x1
            go_wp2
            go_ret
            exact ⟨by rw [HK.out]; rfl, HB0.out⟩
        · have q0 : x < 0 := by omega
          have q0' : decide (x < 0) = true := by simpa using q0
          have HK := Lib.hid (varsB_no (n := n3) hp (fun h => x0 (by rw [← hx]; exact h.1.1)))
          clear hx HN x0
          go_wp2
          go_ret
          exact ⟨by rw [HK.out]; rfl, HB0.out⟩
      · have HK : Hid (varsB vs n3 = true) := Lib.hid (decide_eq_true fun j hj => HN.out j hj (by omega))
        go_wp2
        go_ret
        exact ⟨by rw [HK.out]; rfl, HB0.out⟩
  · have h20' : (20 : Int) < (vs.length : Int) := by omega
    rw [decide_eq_false h20, Bool.false_and]
    clear h20
    go_enter Try.func109, Try.ntmps109
    go_wp2
    go_ret
    exact ⟨rfl, below_alloc _ _⟩
end Go.Proofs.Ytlkkobffgbjkpaa
