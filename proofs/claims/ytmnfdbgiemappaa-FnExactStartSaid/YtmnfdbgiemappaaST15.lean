/-
  Bodies as lists of pairs: which ops are right, what they leave open.
  Whether an op is one: both sides.
  spec.CodeOk.
  spec.StOk answers whether a state is right.
-/
import Derived.Test.YtmnfdbgiemappaaST1
import Derived.Test.YtmnfdbgiemappaaST9
import Derived.Test.YtmnfdbgiemappaaST5
import Derived.Test.YtmnfdbgiemappaaST2
import Derived.Test.YtmnfdbgiemappaaST10
import Derived.Handy
import Derived.IntWalk
namespace Go.Proofs.Ytmnfdbgiemappaa
open Go.RowKit Go

/-- An op as it may be: a kind and a number. -/
def okOp (o : Int × Int) : Bool := if o.1 = 0 then true else if o.1 = 1 then decide (0 ≤ o.2 ∧ o.2 ≤ 23) else if o.1 = 2 then decide (0 ≤ o.2 ∧ o.2 ≤ 23) else decide ((3 ≤ o.1 ∧ o.1 ≤ 8) ∧ o.2 = 0)
/-- The kinds that ops leave open behind those that are open ahead of them. -/
def openG : List (Int × Int) → List Int → Option (List Int)
  | [], st => some st
  | o :: r, st =>
    if o.1 = 3 ∨ o.1 = 4 ∨ o.1 = 6 then openG r (st ++ [o.1])
    else if o.1 = 5 ∨ o.1 = 7 then
      match st.getLast? with
      | none => none
      | some k => if (k = 6 ↔ o.1 = 7) then openG r st.dropLast else none
    else openG r st
/-- The op that ends one of a kind. -/
def endOf (k : Int) : Int × Int := if k = 6 then (7, 0) else (5, 0)
/-- The same with ops that may be none: what ends nothing must begin something. -/
def waitG : List (Int × Int) → List Int → Option (List Int)
  | [], st => some st
  | o :: r, st =>
    if okOp o = true ∧ o.1 ≠ 5 ∧ o.1 ≠ 7 then (if o.1 = 3 ∨ o.1 = 4 ∨ o.1 = 6 then waitG r (st ++ [o.1]) else waitG r st)
    else match st.getLast? with
      | none => none
      | some k => if endOf k = o then waitG r st.dropLast else none
theorem okOp_end (k : Int) : okOp (endOf k) = true := by
  unfold endOf
  split <;> decide
theorem waitG_eq : ∀ (xs : List (Int × Int)) (st : List Int), waitG xs st = if xs.all okOp = true then openG xs st else none := by
  intro xs
  induction xs with
  | nil => intro st; rfl
  | cons o r ih =>
    intro st
    obtain ⟨k, n⟩ := o
    unfold waitG openG
    simp only [List.all_cons, Bool.and_eq_true]
    cases hk : okOp (k, n) with
    | false =>
      simp only [Bool.false_eq_true, false_and, if_false]
      split
      · rfl
      · rename_i q hq
        rw [if_neg]
        intro e
        have := okOp_end q
        rw [e, hk] at this
        cases this
    | true =>
      simp only [true_and]
      by_cases h5 : k = 5 ∨ k = 7
      · have hn : n = 0 := by
          unfold okOp at hk
          rcases h5 with rfl | rfl <;> simpa using hk
        have a1 : ¬ (k ≠ 5 ∧ k ≠ 7) := by omega
        have a2 : ¬ (k = 3 ∨ k = 4 ∨ k = 6) := by omega
        rw [if_neg a1, if_neg a2, if_pos h5]
        cases hl : st.getLast? with
        | none => simp
        | some q =>
          simp only
          have he : (endOf q = (k, n)) ↔ (q = 6 ↔ k = 7) := by
            unfold endOf
            subst hn
            by_cases hq : q = 6
            · simp [hq]; omega
            · simp [hq]; omega
          by_cases h6 : (q = 6 ↔ k = 7)
          · rw [if_pos (he.2 h6), if_pos h6, ih]
          · rw [if_neg (fun e => h6 (he.1 e)), if_neg h6]
            simp
      · have a1 : k ≠ 5 ∧ k ≠ 7 := by omega
        rw [if_pos a1, if_neg h5]
        by_cases h3 : k = 3 ∨ k = 4 ∨ k = 6
        · rw [if_pos h3, if_pos h3, ih]
        · rw [if_neg h3, if_neg h3, ih]
/-- A body with its shape. -/
def shapeB (xs : List (Int × Int)) : Bool := decide (xs.length ≤ 60) && (xs.all okOp && decide (openG xs [] = some []))
theorem shape_wait (xs : List (Int × Int)) : shapeB xs = (decide (xs.length ≤ 60) && decide (waitG xs [] = some [])) := by
  unfold shapeB
  rw [waitG_eq]
  cases h : xs.all okOp <;> simp
end Go.Proofs.Ytmnfdbgiemappaa

namespace Go.Proofs.Ytmnfdbgiemappaa
open Go.RowKit Go

theorem primN_empty (n : Int) : (primN n).toList.isEmpty = !decide (0 ≤ n ∧ n ≤ 23) := by
  unfold primN
  by_cases h : 0 ≤ n ∧ n ≤ 23
  · rw [if_pos h, decide_eq_true h]
    obtain ⟨k, rfl⟩ : ∃ k : Nat, n = k := ⟨n.toNat, by omega⟩
    have hk : k < 24 := by omega
    rw [Int.toNat_natCast, ByteArray.toList_eq]
    match k, hk with
    | 0, _ => rfl
    | 1, _ => rfl
    | 2, _ => rfl
    | 3, _ => rfl
    | 4, _ => rfl
    | 5, _ => rfl
    | 6, _ => rfl
    | 7, _ => rfl
    | 8, _ => rfl
    | 9, _ => rfl
    | 10, _ => rfl
    | 11, _ => rfl
    | 12, _ => rfl
    | 13, _ => rfl
    | 14, _ => rfl
    | 15, _ => rfl
    | 16, _ => rfl
    | 17, _ => rfl
    | 18, _ => rfl
    | 19, _ => rfl
    | 20, _ => rfl
    | 21, _ => rfl
    | 22, _ => rfl
    | 23, _ => rfl
    | k + 24, h => omega
  · rw [if_neg h, decide_eq_false h, ByteArray.toList_eq]
    rfl
end Go.Proofs.Ytmnfdbgiemappaa

namespace Go.Proofs.Ytmnfdbgiemappaa
open Go.RowKit Go

set_option maxRecDepth 100000 in
set_option maxHeartbeats 8000000 in
theorem spec_codeok (xs : List (Int × Int)) (hrg : RngC xs) (v : Value) (w : World) (hr : RdIc w v xs) : Calls Try.prog 22 #[v] w fun e w' => e = .returned (.bool (codeOk xs)) ∧ Below w.heap.size w w' := by
  obtain ⟨R, hR⟩ : ∃ R, codeOk xs = R := ⟨_, rfl⟩
  rw [hR]
  have hl62 : xs.length ≤ 4611686018427387904 := by
    obtain ⟨_, _, _, h, _⟩ := hr
    exact h
  obtain ⟨A, cap, rfl⟩ := hr.form
  have HIN0 := Lib.hid (fun (n : Int) W => in_any n 1 1500 W)
  by_cases h0 : xs.length = 0
  · have HE : Hid (R = false) := Lib.hid (hR.symm.trans (codeOk_len (by omega)))
    have hb : inB ((0 : Nat) : Int) 1 1500 = false := inB_false (by omega)
    have HIN := Lib.hid (fun W => HIN0.out ((0 : Nat) : Int) W)
    rw [hb] at HIN
    rw [h0]
    clear hr hrg hR h0 hl62 HIN0 hb
    go_enter Try.func22, Try.ntmps22
    go_wp2_with fail
    refine (HIN.out _).mono ?_
    rintro e w2 ⟨rfl, rfl⟩
    go_wp2_with fail
    go_ret
    exact ⟨by rw [HE.out]; rfl, by go_grown⟩
  by_cases h1 : xs.length ≤ 1500
  · obtain ⟨M, hM⟩ : ∃ M, xs.length = M + 1 := ⟨xs.length - 1, by omega⟩
    have hMl : M < xs.length := by omega
    obtain ⟨a0, hA, la0, p0, -⟩ := hr.item hMl
    subst hA
    have hlast : xs[xs.length - 1]?.getD (0, 0) = xs[M] := by
      rw [hM, Nat.add_sub_cancel, List.getElem?_eq_getElem hMl]
      rfl
    obtain ⟨x, hx⟩ : ∃ x, xs[M] = x := ⟨_, rfl⟩
    rw [hx] at p0 hlast
    obtain ⟨k9, n9⟩ := x
    simp only at p0
    have wz : IntKind.i64.wrap (((M + 1 : Nat) : Int) - 1) = (M : Int) := by rw [show ((M + 1 : Nat) : Int) - 1 = (M : Int) by omega]; exact IntWalk.i64_in _ (by omega)
    have wy : ((M + 1 : Nat) : Int) - 1 = (M : Int) := by omega
    have i1 : (0 : Int) ≤ (M : Int) := by omega
    have i2 : (M : Int) < ((M + 1 : Nat) : Int) := by omega
    have hb : inB ((M + 1 : Nat) : Int) 1 1500 = true := inB_true (by omega) (by omega)
    have HIN := Lib.hid (fun W => HIN0.out ((M + 1 : Nat) : Int) W)
    rw [hb] at HIN
    clear HIN0 hb
    by_cases h9 : k9 = 9
    · subst h9
      have HEND := Lib.hid (fun h => (codeOk_all ⟨by omega, h1⟩ (by rw [hlast]) h).symm.trans hR)
      have HNO := Lib.hid (fun i (hi : i < xs.length) h => hR.symm.trans (codeOk_not (xs := xs) hi h))
      have HST := Lib.hid (fun i (hi : i < xs.length) => all_step (p := okIn xs.length) hi)
      have HRG := Lib.hid hrg
      have HR := Lib.hid (fun W (h : Below w.heap.size w W) => hr.below h)
      have HN := Lib.hid hM
      have q9 : ((9 : Int) != 9) = false := by decide
      have hM2 : M ≤ 1499 := by omega
      rw [hM] at HEND ⊢
      obtain ⟨N, hN⟩ : ∃ N, M + 1 = N := ⟨_, rfl⟩
      have HNN := Lib.hid hN
      rw [hN] at HEND wz wy i2 HIN ⊢
      have hN2 : N ≤ 1500 := by omega
      clear hr hrg hR hl62 h1 hM hMl hx h0 hlast la0 hN
      go_enter Try.func22, Try.ntmps22
      go_wp2_with fail
      refine (HIN.out _).mono ?_
      rintro e w2 ⟨rfl, rfl⟩
      go_wp2_with fail
      go_loopw [4] (fun vi wr => ∃ i : Nat, vi = .int .i64 i ∧ i ≤ N ∧ Hid (Below w.heap.size w wr) ∧ Hid ((xs.take i).all (okIn xs.length) = true)) (fun vi _ => N - (intOf vi).toNat)
      case atStart => exact ⟨0, rfl, by omega, Lib.hid (Below.refl _ _), Lib.hid (by simp)⟩
      case round =>
        clear p0 i1 i2 HIN
        obtain ⟨i, rfl, hi, HB, HA⟩ := hrel
        by_cases hp : i < N
        · have hp' : i < xs.length := by rw [HN.out, HNN.out]; exact hp
          obtain ⟨a, hae, la, p0, p1⟩ := (HR.out wr HB.out).item hp'
          injection hae with hae
          subst hae
          have HNO2 := Lib.hid (HNO.out i hp')
          have HST2 := Lib.hid (HST.out i hp' HA.out)
          have hsm := HRG.out _ (List.getElem_mem hp')
          rw [HN.out, HNN.out] at HNO2 HST2
          obtain ⟨x, hx⟩ : ∃ x, xs[i] = x := ⟨_, rfl⟩
          rw [hx] at p0 p1 HNO2 HST2 hsm
          obtain ⟨k, n⟩ := x
          simp only at p0 p1 hsm
          have i1 : (0 : Int) ≤ (i : Int) := by omega
          have i2 : (i : Int) < (N : Int) := by omega
          have BX := Lib.hid (HB.out.alloc HB.out.size (.cells #[.int .i64 k, .int .i64 n] 60))
          have KX := Lib.hid (fun W (h : Below (wr.alloc (.cells #[.int .i64 k, .int .i64 n] 60)).heap.size (wr.alloc (.cells #[.int .i64 k, .int .i64 n] 60)) W) => ((Blk.new wr 60 #[.int .i64 k, .int .i64 n]).below h (Blk.new wr 60 #[.int .i64 k, .int .i64 n]).lt))
          have HPN := Lib.hid (fun W => spec_primname n hsm.2.1 hsm.2.2 W)
          have HEM := Lib.hid (primN_empty n)
          have HYES : Hid (okIn N (k, n) = true → (xs.take (i + 1)).all (okIn xs.length) = true) := Lib.hid (fun hc => by have := HST2.out hc; rw [HN.out, HNN.out]; exact this)
          clear hx la hp' hsm HA HST2
          rcases kindsC k with rfl | rfl | h | h | h
          · have HCI := Lib.hid (fun W => in_any n (-2147483648) 2147483647 W)
            have hd : okIn N (0, n) = inB n (-2147483648) 2147483647 := by rw [okIn_0]; simp [inB]
            rw [hd] at HNO2 HYES
            obtain ⟨b, hb⟩ : ∃ b, inB n (-2147483648) 2147483647 = b := ⟨_, rfl⟩
            rw [hb] at HCI HNO2 HYES
            clear hd hb HPN HEM KX
            cases b with
            | true =>
              clear HNO2
              have HA2 := Lib.hid (HYES.out rfl)
              clear HYES
              go_wp2_with fail
              refine (HCI.out _).mono ?_
              rintro e w2 ⟨rfl, rfl⟩
              go_wp2_with fail
              go_roundw
              case rel => exact ⟨i + 1, by go_num, by omega, BX, HA2⟩
              case measure => simp [intOf]; omega
            | false =>
              have HE : Hid (R = false) := Lib.hid (HNO2.out rfl)
              clear HNO2 HYES
              go_wp2_with fail
              refine (HCI.out _).mono ?_
              rintro e w2 ⟨rfl, rfl⟩
              go_wp2_with fail
              go_ret
              exact ⟨by rw [HE.out]; rfl, BX.out⟩
          · rw [okIn_1] at HNO2 HYES
            have hem := HEM.out
            generalize primN n = nm at hem HPN
            generalize decide (0 ≤ n ∧ n ≤ 23) = b at hem HNO2 HYES
            clear HEM
            cases b with
            | true =>
              clear HNO2
              have HA2 := Lib.hid (HYES.out rfl)
              clear HYES KX
              go_wp2_with fail
              refine (HPN.out _).mono ?_
              rintro e w2 ⟨rfl, hb2⟩
              have HB2 := Lib.hid (BX.out.trans (hb2.mono BX.out.size))
              clear hb2 BX
              go_wp2_with fail
              go_roundw
              case rel => exact ⟨i + 1, by go_num, by omega, HB2, HA2⟩
              case measure => simp [intOf]; omega
            | false =>
              have HE : Hid (R = false) := Lib.hid (HNO2.out rfl)
              clear HNO2 HYES KX
              go_wp2_with fail
              refine (HPN.out _).mono ?_
              rintro e w2 ⟨rfl, hb2⟩
              have HB2 := Lib.hid (BX.out.trans (hb2.mono BX.out.size))
              clear hb2 BX
              go_wp2_with fail
              go_ret
              exact ⟨by rw [HE.out]; rfl, HB2.out⟩
          · have HCI := Lib.hid (fun W => in_any n 0 ((N : Int) - 1) W)
            have hd : okIn N (k, n) = inB n 0 ((N : Int) - 1) := by
              rw [okIn_at _ _ h]
              unfold inB
              congr 1
              apply propext
              omega
            rw [hd] at HNO2 HYES
            obtain ⟨b, hb⟩ : ∃ b, inB n 0 ((N : Int) - 1) = b := ⟨_, rfl⟩
            rw [hb] at HCI HNO2 HYES
            have wz2 : IntKind.i64.wrap ((N : Int) - 1) = (N : Int) - 1 := IntWalk.i64_in _ (by omega)
            clear hd hb HPN HEM KX wz wy
            cases b with
            | true =>
              clear HNO2
              have HA2 := Lib.hid (HYES.out rfl)
              clear HYES
              rcases h with rfl | rfl | rfl | rfl | rfl
              all_goals
                go_wp2_with fail
                refine (HCI.out _).mono ?_
                rintro e w2 ⟨rfl, rfl⟩
                go_wp2_with fail
                go_roundw
                case rel => exact ⟨i + 1, by go_num, by omega, BX, HA2⟩
                case measure => simp [intOf]; omega
            | false =>
              have HE : Hid (R = false) := Lib.hid (HNO2.out rfl)
              clear HNO2 HYES
              rcases h with rfl | rfl | rfl | rfl | rfl
              all_goals
                go_wp2_with fail
                refine (HCI.out _).mono ?_
                rintro e w2 ⟨rfl, rfl⟩
                go_wp2_with fail
                go_ret
                exact ⟨by rw [HE.out]; rfl, BX.out⟩
          · have hd : okIn N (k, n) = (n == 0) := by
              rw [okIn_no _ _ h]
              by_cases hz : n = 0 <;> simp [hz]
            rw [hd] at HNO2 HYES
            clear hd HPN HEM KX
            by_cases hz : n = 0
            · subst hz
              have HA2 := Lib.hid (HYES.out rfl)
              clear HYES HNO2
              rcases h with rfl | rfl | rfl
              all_goals
                go_wp2_with fail
                go_roundw
                case rel => exact ⟨i + 1, by go_num, by omega, BX, HA2⟩
                case measure => simp [intOf]; omega
            · have hq : (n == 0) = false := by simpa using hz
              have HE : Hid (R = false) := Lib.hid (HNO2.out hq)
              clear HNO2 HYES hz
              rcases h with rfl | rfl | rfl
              all_goals
                go_wp2_with fail
                go_ret
                exact ⟨by rw [HE.out]; rfl, BX.out⟩
          · have HE : Hid (R = false) := Lib.hid (HNO2.out (okIn_other h))
            obtain ⟨q0, q1, q2, q3, q4, q5, q7, q6, q8, q9⟩ := h
            clear HNO2 HYES HPN HEM KX
            go_wp2_with fail
            go_ret
            exact ⟨by rw [HE.out]; rfl, BX.out⟩
        · obtain rfl : i = N := by omega
          have HE : Hid (R = true) := Lib.hid (by have h := HA.out; have h2 := HEND.out; rw [HN.out, HNN.out] at h; exact (h2 (by exact_mod_cast h)).symm)
          clear HA HR HEND HNO HST
          go_wp2_with fail
          go_ret
          exact ⟨by rw [HE.out]; rfl, HB.out⟩
    · have HE : Hid (R = false) := Lib.hid (hR.symm.trans (codeOk_last (by rw [hlast]; exact h9)))
      have q9 : (k9 != 9) = true := by simpa using h9
      rw [hM]
      have hM2 : M ≤ 1499 := by omega
      obtain ⟨N, hN⟩ : ∃ N, M + 1 = N := ⟨_, rfl⟩
      rw [hN] at wz wy i2 HIN ⊢
      have hN2 : N ≤ 1500 := by omega
      clear hr hrg hR hl62 h1 hM hMl hx h0 hlast h9 hN
      go_enter Try.func22, Try.ntmps22
      go_wp2_with fail
      refine (HIN.out _).mono ?_
      rintro e w2 ⟨rfl, rfl⟩
      go_wp2_with fail
      go_ret
      exact ⟨by rw [HE.out]; rfl, by go_grown⟩
  · have HE : Hid (R = false) := Lib.hid (hR.symm.trans (codeOk_len (by omega)))
    obtain ⟨N, hN⟩ : ∃ N, xs.length = N := ⟨_, rfl⟩
    rw [hN] at h1 h0 hl62 ⊢
    have hb : inB (N : Int) 1 1500 = false := inB_false (by omega)
    have HIN := Lib.hid (fun W => HIN0.out (N : Int) W)
    rw [hb] at HIN
    clear hr hrg hR h1 h0 hN HIN0 hb
    go_enter Try.func22, Try.ntmps22
    go_wp2_with fail
    refine (HIN.out _).mono ?_
    rintro e w2 ⟨rfl, rfl⟩
    go_wp2_with fail
    go_ret
    exact ⟨by rw [HE.out]; rfl, by go_grown⟩
end Go.Proofs.Ytmnfdbgiemappaa

namespace Go.Proofs.Ytmnfdbgiemappaa
open Go.RowKit Go

set_option maxRecDepth 100000 in
set_option maxHeartbeats 8000000 in
theorem sstok_0 (d r m c v o i : Value) (S : S8) (w : World) (hr : RdSt w d r m c v o i S) (t0 : ¬ S.data.length ≤ 16) :
    Calls Try.prog 24 #[.agg #[d, r, .int .i32 S.a, m, c, v, o, i, .int .i64 S.fault, .int .i64 S.fuel]] w fun e w' => e = .returned (.bool false) ∧ Below w.heap.size w w' := by
  have hform := hr.form
  obtain ⟨⟨A0, a0, rfl⟩, ⟨A1, a1, rfl⟩, ⟨A2, a2, rfl⟩, ⟨A3, a3, rfl⟩, ⟨A4, a4, rfl⟩, ⟨A5, a5, rfl⟩, ⟨A6, a6, rfl⟩⟩ := hform
  have g0 : (16 : Int) < (S.data.length : Int) := by omega
  have g0_ : decide ((16 : Int) < (S.data.length : Int)) = true := by simp; omega
  clear hr t0
  go_enter Try.func24, Try.ntmps24
  go_wp2
  go_ret
  exact ⟨rfl, below_alloc w _⟩
set_option maxRecDepth 100000 in
set_option maxHeartbeats 8000000 in
theorem sstok_1 (d r m c v o i : Value) (S : S8) (w : World) (hr : RdSt w d r m c v o i S) (t0 : S.data.length ≤ 16) (t1 : ¬ S.ret.length ≤ 24) :
    Calls Try.prog 24 #[.agg #[d, r, .int .i32 S.a, m, c, v, o, i, .int .i64 S.fault, .int .i64 S.fuel]] w fun e w' => e = .returned (.bool false) ∧ Below w.heap.size w w' := by
  have hform := hr.form
  obtain ⟨⟨A0, a0, rfl⟩, ⟨A1, a1, rfl⟩, ⟨A2, a2, rfl⟩, ⟨A3, a3, rfl⟩, ⟨A4, a4, rfl⟩, ⟨A5, a5, rfl⟩, ⟨A6, a6, rfl⟩⟩ := hform
  have g0 : ¬ (16 : Int) < (S.data.length : Int) := by omega
  have g0_ : decide ((16 : Int) < (S.data.length : Int)) = false := by simp; omega
  have g1 : (24 : Int) < (S.ret.length : Int) := by omega
  have g1_ : decide ((24 : Int) < (S.ret.length : Int)) = true := by simp; omega
  clear hr t0 t1
  go_enter Try.func24, Try.ntmps24
  go_wp2
  go_ret
  exact ⟨rfl, below_alloc w _⟩
set_option maxRecDepth 100000 in
set_option maxHeartbeats 8000000 in
theorem sstok_2 (d r m c v o i : Value) (S : S8) (w : World) (hr : RdSt w d r m c v o i S) (t0 : S.data.length ≤ 16) (t1 : S.ret.length ≤ 24) (t2 : ¬ S.mem.length = 32) :
    Calls Try.prog 24 #[.agg #[d, r, .int .i32 S.a, m, c, v, o, i, .int .i64 S.fault, .int .i64 S.fuel]] w fun e w' => e = .returned (.bool false) ∧ Below w.heap.size w w' := by
  have hform := hr.form
  obtain ⟨⟨A0, a0, rfl⟩, ⟨A1, a1, rfl⟩, ⟨A2, a2, rfl⟩, ⟨A3, a3, rfl⟩, ⟨A4, a4, rfl⟩, ⟨A5, a5, rfl⟩, ⟨A6, a6, rfl⟩⟩ := hform
  have g0 : ¬ (16 : Int) < (S.data.length : Int) := by omega
  have g0_ : decide ((16 : Int) < (S.data.length : Int)) = false := by simp; omega
  have g1 : ¬ (24 : Int) < (S.ret.length : Int) := by omega
  have g1_ : decide ((24 : Int) < (S.ret.length : Int)) = false := by simp; omega
  have g2 : ((S.mem.length : Int) != 32) = true := by simp; omega
  clear hr t0 t1 t2
  go_enter Try.func24, Try.ntmps24
  go_wp2
  go_ret
  exact ⟨rfl, below_alloc w _⟩
set_option maxRecDepth 100000 in
set_option maxHeartbeats 8000000 in
theorem sstok_3 (d r m c v o i : Value) (S : S8) (w : World) (hr : RdSt w d r m c v o i S) (t0 : S.data.length ≤ 16) (t1 : S.ret.length ≤ 24) (t2 : S.mem.length = 32) (t3 : ¬ S.vars.length ≤ 20) :
    Calls Try.prog 24 #[.agg #[d, r, .int .i32 S.a, m, c, v, o, i, .int .i64 S.fault, .int .i64 S.fuel]] w fun e w' => e = .returned (.bool false) ∧ Below w.heap.size w w' := by
  have hform := hr.form
  obtain ⟨⟨A0, a0, rfl⟩, ⟨A1, a1, rfl⟩, ⟨A2, a2, rfl⟩, ⟨A3, a3, rfl⟩, ⟨A4, a4, rfl⟩, ⟨A5, a5, rfl⟩, ⟨A6, a6, rfl⟩⟩ := hform
  have g0 : ¬ (16 : Int) < (S.data.length : Int) := by omega
  have g0_ : decide ((16 : Int) < (S.data.length : Int)) = false := by simp; omega
  have g1 : ¬ (24 : Int) < (S.ret.length : Int) := by omega
  have g1_ : decide ((24 : Int) < (S.ret.length : Int)) = false := by simp; omega
  have g2 : ((S.mem.length : Int) != 32) = false := by simp; omega
  have g3 : (20 : Int) < (S.vars.length : Int) := by omega
  have g3_ : decide ((20 : Int) < (S.vars.length : Int)) = true := by simp; omega
  clear hr t0 t1 t2 t3
  go_enter Try.func24, Try.ntmps24
  go_wp2
  go_ret
  exact ⟨rfl, below_alloc w _⟩
set_option maxRecDepth 100000 in
set_option maxHeartbeats 8000000 in
theorem sstok_4 (d r m c v o i : Value) (S : S8) (w : World) (hr : RdSt w d r m c v o i S) (t0 : S.data.length ≤ 16) (t1 : S.ret.length ≤ 24) (t2 : S.mem.length = 32) (t3 : S.vars.length ≤ 20) (t4 : ¬ S.out.length ≤ 400) :
    Calls Try.prog 24 #[.agg #[d, r, .int .i32 S.a, m, c, v, o, i, .int .i64 S.fault, .int .i64 S.fuel]] w fun e w' => e = .returned (.bool false) ∧ Below w.heap.size w w' := by
  have hform := hr.form
  obtain ⟨⟨A0, a0, rfl⟩, ⟨A1, a1, rfl⟩, ⟨A2, a2, rfl⟩, ⟨A3, a3, rfl⟩, ⟨A4, a4, rfl⟩, ⟨A5, a5, rfl⟩, ⟨A6, a6, rfl⟩⟩ := hform
  have g0 : ¬ (16 : Int) < (S.data.length : Int) := by omega
  have g0_ : decide ((16 : Int) < (S.data.length : Int)) = false := by simp; omega
  have g1 : ¬ (24 : Int) < (S.ret.length : Int) := by omega
  have g1_ : decide ((24 : Int) < (S.ret.length : Int)) = false := by simp; omega
  have g2 : ((S.mem.length : Int) != 32) = false := by simp; omega
  have g3 : ¬ (20 : Int) < (S.vars.length : Int) := by omega
  have g3_ : decide ((20 : Int) < (S.vars.length : Int)) = false := by simp; omega
  have g4 : (400 : Int) < (S.out.length : Int) := by omega
  have g4_ : decide ((400 : Int) < (S.out.length : Int)) = true := by simp; omega
  clear hr t0 t1 t2 t3 t4
  go_enter Try.func24, Try.ntmps24
  go_wp2
  go_ret
  exact ⟨rfl, below_alloc w _⟩
set_option maxRecDepth 100000 in
set_option maxHeartbeats 8000000 in
theorem sstok_5 (d r m c v o i : Value) (S : S8) (w : World) (hr : RdSt w d r m c v o i S) (t0 : S.data.length ≤ 16) (t1 : S.ret.length ≤ 24) (t2 : S.mem.length = 32) (t3 : S.vars.length ≤ 20) (t4 : S.out.length ≤ 400) (t5 : ¬ S.inp.length ≤ 100) :
    Calls Try.prog 24 #[.agg #[d, r, .int .i32 S.a, m, c, v, o, i, .int .i64 S.fault, .int .i64 S.fuel]] w fun e w' => e = .returned (.bool false) ∧ Below w.heap.size w w' := by
  have hform := hr.form
  obtain ⟨⟨A0, a0, rfl⟩, ⟨A1, a1, rfl⟩, ⟨A2, a2, rfl⟩, ⟨A3, a3, rfl⟩, ⟨A4, a4, rfl⟩, ⟨A5, a5, rfl⟩, ⟨A6, a6, rfl⟩⟩ := hform
  have g0 : ¬ (16 : Int) < (S.data.length : Int) := by omega
  have g0_ : decide ((16 : Int) < (S.data.length : Int)) = false := by simp; omega
  have g1 : ¬ (24 : Int) < (S.ret.length : Int) := by omega
  have g1_ : decide ((24 : Int) < (S.ret.length : Int)) = false := by simp; omega
  have g2 : ((S.mem.length : Int) != 32) = false := by simp; omega
  have g3 : ¬ (20 : Int) < (S.vars.length : Int) := by omega
  have g3_ : decide ((20 : Int) < (S.vars.length : Int)) = false := by simp; omega
  have g4 : ¬ (400 : Int) < (S.out.length : Int) := by omega
  have g4_ : decide ((400 : Int) < (S.out.length : Int)) = false := by simp; omega
  have g5 : (100 : Int) < (S.inp.length : Int) := by omega
  have g5_ : decide ((100 : Int) < (S.inp.length : Int)) = true := by simp; omega
  clear hr t0 t1 t2 t3 t4 t5
  go_enter Try.func24, Try.ntmps24
  go_wp2
  go_ret
  exact ⟨rfl, below_alloc w _⟩
set_option maxRecDepth 100000 in
set_option maxHeartbeats 8000000 in
theorem sstok_l (d r m c v o i : Value) (S : S8) (w : World) (hr : RdSt w d r m c v o i S) (t0 : S.data.length ≤ 16) (t1 : S.ret.length ≤ 24) (t2 : S.mem.length = 32) (t3 : S.vars.length ≤ 20) (t4 : S.out.length ≤ 400) (t5 : S.inp.length ≤ 100) :
    Calls Try.prog 24 #[.agg #[d, r, .int .i32 S.a, m, c, v, o, i, .int .i64 S.fault, .int .i64 S.fuel]] w fun e w' => e = .returned (.bool (ok8 S)) ∧ Below w.heap.size w w' := by
  have hform := hr.form
  obtain ⟨⟨A0, a0, rfl⟩, ⟨A1, a1, rfl⟩, ⟨A2, a2, rfl⟩, ⟨A3, a3, rfl⟩, ⟨A4, a4, rfl⟩, ⟨A5, a5, rfl⟩, ⟨A6, a6, rfl⟩⟩ := hform
  have g0 : ¬ (16 : Int) < (S.data.length : Int) := by omega
  have g0_ : decide ((16 : Int) < (S.data.length : Int)) = false := by simp; omega
  have g1 : ¬ (24 : Int) < (S.ret.length : Int) := by omega
  have g1_ : decide ((24 : Int) < (S.ret.length : Int)) = false := by simp; omega
  have g2 : ((S.mem.length : Int) != 32) = false := by simp; omega
  have g3 : ¬ (20 : Int) < (S.vars.length : Int) := by omega
  have g3_ : decide ((20 : Int) < (S.vars.length : Int)) = false := by simp; omega
  have g4 : ¬ (400 : Int) < (S.out.length : Int) := by omega
  have g4_ : decide ((400 : Int) < (S.out.length : Int)) = false := by simp; omega
  have g5 : ¬ (100 : Int) < (S.inp.length : Int) := by omega
  have g5_ : decide ((100 : Int) < (S.inp.length : Int)) = false := by simp; omega
  have hcl : S.cells.length ≤ 4611686018427387904 := by obtain ⟨_, _, _, h, _⟩ := hr.c; exact h
  have LEN : Hid (S.data.length ≤ 16 ∧ S.ret.length ≤ 24 ∧ S.mem.length = 32 ∧ S.vars.length ≤ 20 ∧ S.out.length ≤ 400 ∧ S.inp.length ≤ 100) := Lib.hid ⟨t0, t1, t2, t3, t4, t5⟩
  have hb0 := below_alloc w (.cells #[.slice A0 S.data.length a0, .slice A1 S.ret.length a1, .int .i32 S.a, .slice A2 S.mem.length a2, .slice A3 S.cells.length a3, .slice A4 S.vars.length a4, .slice A5 S.out.length a5, .slice A6 S.inp.length a6, .int .i64 S.fault, .int .i64 S.fuel] 34)
  have k0 := Blk.new w 34 #[.slice A0 S.data.length a0, .slice A1 S.ret.length a1, .int .i32 S.a, .slice A2 S.mem.length a2, .slice A3 S.cells.length a3, .slice A4 S.vars.length a4, .slice A5 S.out.length a5, .slice A6 S.inp.length a6, .int .i64 S.fault, .int .i64 S.fuel]
  have HRR := Lib.hid ((hr.below hb0).r)
  have HRV := Lib.hid ((hr.below hb0).v)
  obtain ⟨c0, c1, c2, c3, c4, c5, c6, c7, c8, c9⟩ := st_cells k0
  have HST := Lib.hid (fun W => spec_storeok A3 S.cells.length a3 hcl W)
  have HB0 := Lib.hid hb0
  have KB0 := Lib.hid k0
  obtain ⟨rs, hrs⟩ : ∃ rs, S.ret = rs := ⟨_, rfl⟩
  obtain ⟨vs, hvs⟩ : ∃ vs, S.vars = vs := ⟨_, rfl⟩
  obtain ⟨n3, hn3⟩ : ∃ n3, S.cells.length = n3 := ⟨_, rfl⟩
  have HRS := Lib.hid hrs
  have HVS := Lib.hid hvs
  have HN3 := Lib.hid hn3
  simp only [hrs, hvs, hn3] at HRR HRV c0 c1 c2 c3 c4 c5 c6 c7 c8 c9 HST HB0 KB0 hcl g0 g0_ g1 g1_ g2 g3 g3_ g4 g4_ g5 g5_ ⊢
  clear hr hb0 k0 t0 t1 t2 t3 t4 t5 hrs hvs hn3
  obtain ⟨W0, hW0⟩ : ∃ W0, w.alloc (.cells #[.slice A0 S.data.length a0, .slice A1 rs.length a1, .int .i32 S.a, .slice A2 S.mem.length a2, .slice A3 n3 a3, .slice A4 vs.length a4, .slice A5 S.out.length a5, .slice A6 S.inp.length a6, .int .i64 S.fault, .int .i64 S.fuel] 34) = W0 := ⟨_, rfl⟩
  have HW0 := Lib.hid hW0
  clear hW0
  go_enter Try.func24, Try.ntmps24
  go_wp2
  have hW0 := HW0.out
  rw [hW0] at HRR HRV c0 c1 c2 c3 c4 c5 c6 c7 c8 c9 HB0 KB0 ⊢
  clear hW0 HW0
  go_loop [3] (fun vi => ∃ i : Nat, vi = .int .i64 i ∧ i ≤ rs.length ∧ Hid (∀ j (h : j < rs.length), j < i → 0 ≤ (rs[j]).1 ∧ (rs[j]).1 ≤ 2)) (fun vi => rs.length - (intOf vi).toNat)
  case atStart => exact ⟨0, rfl, by omega, Lib.hid (fun j _ h => by omega)⟩
  case round =>
    obtain ⟨i, rfl, hi, HN⟩ := hrel
    by_cases hp : i < rs.length
    · obtain ⟨a, rfl, la, p0, p1⟩ := HRR.out.item hp
      have i1 : (0 : Int) ≤ (i : Int) := by omega
      have i2 : (i : Int) < (rs.length : Int) := by omega
      obtain ⟨y, hy⟩ : ∃ y, rs[i] = y := ⟨_, rfl⟩
      obtain ⟨k, z⟩ := y
      rw [hy] at p0 p1
      by_cases hk : 0 ≤ k ∧ k ≤ 2
      · have HIN := Lib.hid (fun W => in_any k 0 2 W)
        rw [inB_true hk.1 hk.2] at HIN
        have HN2 : Hid (∀ j (h : j < rs.length), j < i + 1 → 0 ≤ (rs[j]).1 ∧ (rs[j]).1 ≤ 2) := Lib.hid fun j hj h2 => by
          rcases Nat.lt_or_ge j i with h3 | h3
          · exact HN.out j hj h3
          · obtain rfl : j = i := by omega
            rw [hy]
            exact hk
        clear hy HN hk
        go_wp2_with fail
        refine (HIN.out _).mono ?_
        rintro e w' ⟨rfl, rfl⟩
        go_wp2_with fail
        go_round
        case rel => exact ⟨i + 1, by go_num, by omega, HN2⟩
        case measure => simp [intOf]; omega
      · have HIN := Lib.hid (fun W => in_any k 0 2 W)
        rw [inB_false hk] at HIN
        have HK : Hid (kindsB S.ret = false) := Lib.hid (by rw [HRS.out]; exact kindsB_no hp (by rw [hy]; exact hk))
        have HO : Hid (ok8 S = false) := Lib.hid (Bool.eq_false_iff.2 fun e => by have h := ((ok8_iff S).1 e).kinds; rw [HK.out] at h; cases h)
        clear hy HN hk HK
        go_wp2_with fail
        refine (HIN.out _).mono ?_
        rintro e w' ⟨rfl, rfl⟩
        go_wp2_with fail
        go_ret
        exact ⟨by rw [HO.out]; rfl, HB0.out⟩
    · have HK : Hid (kindsB S.ret = true) := Lib.hid (by rw [HRS.out]; exact decide_eq_true fun j hj => HN.out j hj (by omega))
      clear HN HRR
      go_wp2_with fail
      go_loopw [4] (fun vi wr => ∃ i d : Nat, vi = .int .i64 i ∧ i ≤ vs.length ∧ Hid (∀ j (h : j < vs.length), j < i → (0 ≤ vs[j] ∧ vs[j] < (n3 : Int)) ∧ vs[j] ∉ vs.take j) ∧ Hid (wr = W0.drewN d)) (fun vi _ => vs.length - (intOf vi).toNat)
      case atStart => exact ⟨0, 0, rfl, by omega, Lib.hid (fun j _ h => by omega), Lib.hid (by rw [World.drewN_zero])⟩
      case round =>
        obtain ⟨i, d, rfl, hi, HN, HW⟩ := hrel
        have q5 : wr.cell? ⟨w.heap.size, 5, none⟩ = some (.slice A4 vs.length a4) := by rw [HW.out]; exact c5
        have q4 : wr.cell? ⟨w.heap.size, 4, none⟩ = some (.slice A3 n3 a3) := by rw [HW.out]; exact c4
        by_cases hp : i < vs.length
        · obtain ⟨a, rfl, la, p0'⟩ := HRV.out.at hp
          have p0 : wr.cell? (a.add i) = some (.int .i64 vs[i]) := by rw [HW.out]; exact p0'
          clear p0'
          have i1 : (0 : Int) ≤ (i : Int) := by omega
          have i2 : (i : Int) < (vs.length : Int) := by omega
          obtain ⟨x, hx⟩ : ∃ x, vs[i] = x := ⟨_, rfl⟩
          have HX := Lib.hid hx
          rw [hx] at p0
          clear hx
          by_cases hk : 0 ≤ x ∧ x ≤ (n3 : Int) - 1
          · have HIN := Lib.hid (fun W => in_any x 0 ((n3 : Int) - 1) W)
            rw [inB_true hk.1 hk.2] at HIN
            have HKK := Lib.hid hk
            have wz : IntKind.i64.wrap ((n3 : Int) - 1) = (n3 : Int) - 1 := IntWalk.i64_in _ (by omega)
            clear hk
            go_wp2_with fail
            go_quiet ((go_at_call 23; exact Calls.quiet_of_same ((HIN.out _).mono fun e w' h => ⟨h.1, h.2.symm⟩)))
            clear wz
            go_wp2_with fail
            generalize hwo : wr.drewN nq = wo
            have HWO : Hid (wo = W0.drewN (d + nq)) := Lib.hid (by rw [← hwo, HW.out, World.drewN_drewN])
            clear hwo q5 q4 p0
            go_loopw [5] (fun vk w2 => ∃ k e : Nat, vk = .int .i64 k ∧ k ≤ i ∧ Hid (∀ j (h : j < vs.length), j < k → vs[j] ≠ x) ∧ Hid (w2 = wo.drewN e)) (fun vk _ => i - (intOf vk).toNat)
            case atStart => exact ⟨0, 0, rfl, by omega, Lib.hid (fun j _ h => by omega), Lib.hid (by rw [World.drewN_zero])⟩
            case round =>
              obtain ⟨k, e, rfl, hk, HM, HW2⟩ := hrel
              by_cases hki : k < i
              · have q5 : wr.cell? ⟨w.heap.size, 5, none⟩ = some (.slice (some a) vs.length a4) := by rw [HW2.out, HWO.out]; exact c5
                obtain ⟨a', ha', la', pk'⟩ := HRV.out.at (i := k) (by omega)
                injection ha' with ha'
                subst ha'
                obtain ⟨a'', ha'', la'', pi'⟩ := HRV.out.at (i := i) hp
                injection ha'' with ha''
                subst ha''
                have pk : wr.cell? (a.add k) = some (.int .i64 (vs[k]'(by omega))) := by rw [HW2.out, HWO.out]; exact pk'
                have pi : wr.cell? (a.add i) = some (.int .i64 x) := by rw [HW2.out, HWO.out, ← HX.out]; exact pi'
                clear pk' pi' la' la''
                obtain ⟨y, hy⟩ : ∃ y, (vs[k]'(by omega)) = y := ⟨_, rfl⟩
                rw [hy] at pk
                have k1 : (0 : Int) ≤ (k : Int) := by omega
                have k2 : (k : Int) < (vs.length : Int) := by omega
                have k3 : (k : Int) < (i : Int) := by omega
                by_cases he : y = x
                · have he' : (y == x) = true := by simp [he]
                  have HK : Hid (varsB S.vars S.cells.length = false) := Lib.hid (by
                    rw [HVS.out, HN3.out]
                    refine varsB_no hp fun h => h.2 ?_
                    rw [HX.out, ← he, ← hy]
                    exact List.mem_take_iff_getElem.2 ⟨k, by omega, rfl⟩)
                  have HO : Hid (ok8 S = false) := Lib.hid (Bool.eq_false_iff.2 fun e => by have h := ((ok8_iff S).1 e).places; rw [HK.out] at h; cases h)
                  clear he hy
                  go_wp2_with fail
                  go_quiet (fail)
                  go_wp2_with fail
                  go_ret
                  exact ⟨by rw [HO.out]; rfl, by rw [HW2.out, HWO.out]; exact below_drewN (below_drewN (below_drewN HB0.out _) _) _⟩
                · have he' : (y == x) = false := by simpa using he
                  have HM2 : Hid (∀ j (h : j < vs.length), j < k + 1 → vs[j] ≠ x) := Lib.hid fun j hj h2 => by
                    rcases Nat.lt_or_ge j k with h3 | h3
                    · exact HM.out j hj h3
                    · obtain rfl : j = k := by omega
                      rw [hy]
                      exact he
                  clear he hy
                  go_wp2_with fail
                  go_quiet (fail)
                  go_wp2_with fail
                  go_roundw
                  case rel => exact ⟨k + 1, _, by go_num, by omega, HM2, Lib.hid (by rw [HW2.out, World.drewN_drewN])⟩
                  case measure => simp [intOf]; omega
              · obtain rfl : k = i := by omega
                have HN2 : Hid (∀ j (h : j < vs.length), j < k + 1 → (0 ≤ vs[j] ∧ vs[j] < (n3 : Int)) ∧ vs[j] ∉ vs.take j) := Lib.hid fun j hj h2 => by
                  rcases Nat.lt_or_ge j k with h3 | h3
                  · exact HN.out j hj h3
                  · obtain rfl : j = k := by omega
                    rw [HX.out]
                    refine ⟨⟨HKK.out.1, by have := HKK.out.2; omega⟩, fun hm => ?_⟩
                    obtain ⟨q, hq1, hq2⟩ := List.mem_take_iff_getElem.1 hm
                    exact HM.out q (by omega) (by omega) hq2
                go_wp2_with fail
                go_roundw
                case rel => exact ⟨k + 1, _, by go_num, by omega, HN2, Lib.hid (by rw [HW2.out, HWO.out, World.drewN_drewN])⟩
                case measure => simp [intOf]; omega
          · have HIN := Lib.hid (fun W => in_any x 0 ((n3 : Int) - 1) W)
            rw [inB_false hk] at HIN
            have HK : Hid (varsB S.vars S.cells.length = false) := Lib.hid (by rw [HVS.out, HN3.out]; exact varsB_no hp (by rw [HX.out]; exact fun h => hk ⟨h.1.1, by have := h.1.2; omega⟩))
            have HO : Hid (ok8 S = false) := Lib.hid (Bool.eq_false_iff.2 fun e => by have h := ((ok8_iff S).1 e).places; rw [HK.out] at h; cases h)
            have wz : IntKind.i64.wrap ((n3 : Int) - 1) = (n3 : Int) - 1 := IntWalk.i64_in _ (by omega)
            clear hk
            go_wp2_with fail
            go_quiet ((go_at_call 23; exact Calls.quiet_of_same ((HIN.out _).mono fun e w' h => ⟨h.1, h.2.symm⟩)))
            clear wz
            go_wp2_with fail
            go_ret
            exact ⟨by rw [HO.out]; rfl, by rw [HW.out]; exact below_drewN (below_drewN HB0.out _) _⟩
        · have HP : Hid (varsB S.vars S.cells.length = true) := Lib.hid (by rw [HVS.out, HN3.out]; exact decide_eq_true fun j hj => HN.out j hj (by omega))
          have KB : Hid (Blk wr w.heap.size 34 #[.slice A0 S.data.length a0, .slice A1 rs.length a1, .int .i32 S.a, .slice A2 S.mem.length a2, .slice A3 n3 a3, .slice A4 vs.length a4, .slice A5 S.out.length a5, .slice A6 S.inp.length a6, .int .i64 S.fault, .int .i64 S.fuel]) := Lib.hid (by rw [HW.out]; exact KB0.out)
          have hLEN := LEN.out
          have hB : Below w.heap.size w wr := by rw [HW.out]; exact below_drewN HB0.out _
          have HBR := Lib.hid hB
          clear HN HW hB HRV HB0
          by_cases t3 : storeB S.cells.length = true
          · rw [← HN3.out] at HST
            rw [t3] at HST
            by_cases t7 : 0 ≤ S.fault ∧ S.fault ≤ 13
            · have HIF := Lib.hid (fun W => in_any S.fault 0 13 W)
              rw [inB_true t7.1 t7.2] at HIF
              by_cases t9 : 0 ≤ S.fuel ∧ S.fuel ≤ 4000
              · have HIU := Lib.hid (fun W => in_any S.fuel 0 4000 W)
                rw [inB_true t9.1 t9.2] at HIU
                have HO : Hid (ok8 S = true) := Lib.hid ((ok8_iff S).2 ⟨hLEN.1, hLEN.2.1, hLEN.2.2.1, hLEN.2.2.2.1, hLEN.2.2.2.2.1, hLEN.2.2.2.2.2, HK.out, HP.out, t3, t7, t9⟩)
                clear t3 t7 t9 hLEN
                obtain ⟨e0, e1, e2, e3, e4, e5, e6, e7, e8, e9⟩ := st_cells KB.out
                go_wp2_with fail
                rw [HN3.out] at HST
                refine (HST.out _).mono ?_
                rintro e w5 ⟨rfl, hb5⟩
                have kb5 := KB.out.below hb5 KB.out.lt
                have hb6 := HBR.out.trans (hb5.mono HBR.out.size)
                have HB6 := Lib.hid hb6
                clear e0 e1 e2 e3 e4 e5 e6 e7 e8 e9
                obtain ⟨f0, f1, f2, f3, f4, f5, f6, f7, f8, f9⟩ := st_cells kb5
                clear hb5 kb5 hb6 KB HBR
                go_wp2_with fail
                refine (HIF.out _).mono ?_
                rintro e w6 ⟨rfl, rfl⟩
                go_wp2_with fail
                refine (HIU.out _).mono ?_
                rintro e w7 ⟨rfl, rfl⟩
                go_wp2_with fail
                go_ret
                exact ⟨by rw [HO.out]; rfl, HB6.out⟩
              · have HIU := Lib.hid (fun W => in_any S.fuel 0 4000 W)
                rw [inB_false t9] at HIU
                have HO : Hid (ok8 S = false) := Lib.hid (Bool.eq_false_iff.2 fun e => t9 ((ok8_iff S).1 e).fuel)
                clear t3 t7 t9 hLEN
                obtain ⟨e0, e1, e2, e3, e4, e5, e6, e7, e8, e9⟩ := st_cells KB.out
                go_wp2_with fail
                rw [HN3.out] at HST
                refine (HST.out _).mono ?_
                rintro e w5 ⟨rfl, hb5⟩
                have kb5 := KB.out.below hb5 KB.out.lt
                have hb6 := HBR.out.trans (hb5.mono HBR.out.size)
                have HB6 := Lib.hid hb6
                clear e0 e1 e2 e3 e4 e5 e6 e7 e8 e9
                obtain ⟨f0, f1, f2, f3, f4, f5, f6, f7, f8, f9⟩ := st_cells kb5
                clear hb5 kb5 hb6 KB HBR
                go_wp2_with fail
                refine (HIF.out _).mono ?_
                rintro e w6 ⟨rfl, rfl⟩
                go_wp2_with fail
                refine (HIU.out _).mono ?_
                rintro e w7 ⟨rfl, rfl⟩
                go_wp2_with fail
                go_ret
                exact ⟨by rw [HO.out]; rfl, HB6.out⟩
            · have HIF := Lib.hid (fun W => in_any S.fault 0 13 W)
              rw [inB_false t7] at HIF
              have HO : Hid (ok8 S = false) := Lib.hid (Bool.eq_false_iff.2 fun e => t7 ((ok8_iff S).1 e).fault)
              clear t3 t7 hLEN
              obtain ⟨e0, e1, e2, e3, e4, e5, e6, e7, e8, e9⟩ := st_cells KB.out
              go_wp2_with fail
              rw [HN3.out] at HST
              refine (HST.out _).mono ?_
              rintro e w5 ⟨rfl, hb5⟩
              have kb5 := KB.out.below hb5 KB.out.lt
              have hb6 := HBR.out.trans (hb5.mono HBR.out.size)
              have HB6 := Lib.hid hb6
              clear e0 e1 e2 e3 e4 e5 e6 e7 e8 e9
              obtain ⟨f0, f1, f2, f3, f4, f5, f6, f7, f8, f9⟩ := st_cells kb5
              clear hb5 kb5 hb6 KB HBR
              go_wp2_with fail
              refine (HIF.out _).mono ?_
              rintro e w6 ⟨rfl, rfl⟩
              go_wp2_with fail
              go_ret
              exact ⟨by rw [HO.out]; rfl, HB6.out⟩
          · rw [← HN3.out] at HST
            rw [show storeB S.cells.length = false by simpa using t3] at HST
            have HO : Hid (ok8 S = false) := Lib.hid (Bool.eq_false_iff.2 fun e => t3 ((ok8_iff S).1 e).store)
            clear t3 hLEN
            obtain ⟨e0, e1, e2, e3, e4, e5, e6, e7, e8, e9⟩ := st_cells KB.out
            go_wp2_with fail
            rw [HN3.out] at HST
            refine (HST.out _).mono ?_
            rintro e w5 ⟨rfl, hb5⟩
            have kb5 := KB.out.below hb5 KB.out.lt
            have hb6 := HBR.out.trans (hb5.mono HBR.out.size)
            have HB6 := Lib.hid hb6
            clear e0 e1 e2 e3 e4 e5 e6 e7 e8 e9
            obtain ⟨f0, f1, f2, f3, f4, f5, f6, f7, f8, f9⟩ := st_cells kb5
            clear hb5 kb5 hb6 KB HBR
            go_wp2_with fail
            go_ret
            exact ⟨by rw [HO.out]; rfl, HB6.out⟩
theorem spec_stok (d r m c v o i : Value) (S : S8) (w : World) (hr : RdSt w d r m c v o i S) :
    Calls Try.prog 24 #[.agg #[d, r, .int .i32 S.a, m, c, v, o, i, .int .i64 S.fault, .int .i64 S.fuel]] w fun e w' => e = .returned (.bool (ok8 S)) ∧ Below w.heap.size w w' := by
  by_cases t0 : S.data.length ≤ 16
  case neg =>
    rw [show ok8 S = false from Bool.eq_false_iff.2 fun e => t0 ((ok8_iff S).1 e).data]
    exact sstok_0 d r m c v o i S w hr t0
  by_cases t1 : S.ret.length ≤ 24
  case neg =>
    rw [show ok8 S = false from Bool.eq_false_iff.2 fun e => t1 ((ok8_iff S).1 e).ret]
    exact sstok_1 d r m c v o i S w hr t0 t1
  by_cases t2 : S.mem.length = 32
  case neg =>
    rw [show ok8 S = false from Bool.eq_false_iff.2 fun e => t2 ((ok8_iff S).1 e).mem]
    exact sstok_2 d r m c v o i S w hr t0 t1 t2
  by_cases t3 : S.vars.length ≤ 20
  case neg =>
    rw [show ok8 S = false from Bool.eq_false_iff.2 fun e => t3 ((ok8_iff S).1 e).vars]
    exact sstok_3 d r m c v o i S w hr t0 t1 t2 t3
  by_cases t4 : S.out.length ≤ 400
  case neg =>
    rw [show ok8 S = false from Bool.eq_false_iff.2 fun e => t4 ((ok8_iff S).1 e).out]
    exact sstok_4 d r m c v o i S w hr t0 t1 t2 t3 t4
  by_cases t5 : S.inp.length ≤ 100
  case neg =>
    rw [show ok8 S = false from Bool.eq_false_iff.2 fun e => t5 ((ok8_iff S).1 e).inp]
    exact sstok_5 d r m c v o i S w hr t0 t1 t2 t3 t4 t5
  exact sstok_l d r m c v o i S w hr t0 t1 t2 t3 t4 t5
end Go.Proofs.Ytmnfdbgiemappaa
