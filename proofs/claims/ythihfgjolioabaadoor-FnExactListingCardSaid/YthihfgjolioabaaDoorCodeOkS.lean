/-
  spec.CodeOk.
-/
import Derived.Test.YthihfgjolioabaaDoorInsMath
import Derived.Test.YthihfgjolioabaaDoorInsW
import Derived.Test.YthihfgjolioabaaDoorPrimName
import Derived.Test.YthihfgjolioabaaDoorIn
import Derived.Test.YthihfgjolioabaaDoorBlk
import Derived.Test.YthihfgjolioabaaDoorCodeOkI
import Derived.Test.YthihfgjolioabaaDoorOpOk
import Derived.Handy
import Derived.IntWalk
namespace Go.Proofs.YthihfgjolioabaaDoor
open Go.RowKit Go

set_option maxRecDepth 100000 in
set_option maxHeartbeats 8000000 in
theorem spec_codeok (xs : List (Int × Int)) (hrg : RngC xs) (v : Value) (w : World) (hr : RdIc w v xs) : Calls Tryd.prog 20 #[v] w fun e w' => e = .returned (.bool (codeOk xs)) ∧ Below w.heap.size w w' := by
  obtain ⟨R, hR⟩ : ∃ R, codeOk xs = R := ⟨_, rfl⟩
  rw [hR]
  have hl62 : xs.length ≤ 4611686018427387904 := by
    obtain ⟨_, _, _, h, _⟩ := hr
    exact h
  obtain ⟨A, cap, rfl⟩ := hr.form
  have HIN0 := Lib.hid (fun (n : Int) W => in_any n 1 1500 W)
  by_cases h0 : xs.length = 0
  · have HE : Hid (R = false) := Lib.hid (hR.symm.trans (codeOk_len (by omega)))
    have hb : inB ((0 : Nat) : Int) 1 1500 = false := inB_false (by omega)
    have HIN := Lib.hid (fun W => HIN0.out ((0 : Nat) : Int) W)
    rw [hb] at HIN
    rw [h0]
    clear hr hrg hR h0 hl62 HIN0 hb
    go_enter Tryd.func20, Tryd.ntmps20
    go_wp2_with fail
    refine (HIN.out _).mono ?_
    rintro e w2 ⟨rfl, rfl⟩
    go_wp2_with fail
    go_ret
    exact ⟨by rw [HE.out]; rfl, by go_grown⟩
  by_cases h1 : xs.length ≤ 1500
  · obtain ⟨M, hM⟩ : ∃ M, xs.length = M + 1 := ⟨xs.length - 1, by omega⟩
    have hMl : M < xs.length := by omega
    obtain ⟨a0, hA, la0, p0, -⟩ := hr.item hMl
    subst hA
    have hlast : xs[xs.length - 1]?.getD (0, 0) = xs[M] := by
      rw [hM, Nat.add_sub_cancel, List.getElem?_eq_getElem hMl]
      rfl
    obtain ⟨x, hx⟩ : ∃ x, xs[M] = x := ⟨_, rfl⟩
    rw [hx] at p0 hlast
    obtain ⟨k9, n9⟩ := x
    simp only at p0
    have wz : IntKind.i64.wrap (((M + 1 : Nat) : Int) - 1) = (M : Int) := by rw [show ((M + 1 : Nat) : Int) - 1 = (M : Int) by omega]; exact IntWalk.i64_in _ (by omega)
    have wy : ((M + 1 : Nat) : Int) - 1 = (M : Int) := by omega
    have i1 : (0 : Int) ≤ (M : Int) := by omega
    have i2 : (M : Int) < ((M + 1 : Nat) : Int) := by omega
    have hb : inB ((M + 1 : Nat) : Int) 1 1500 = true := inB_true (by omega) (by omega)
    have HIN := Lib.hid (fun W => HIN0.out ((M + 1 : Nat) : Int) W)
    rw [hb] at HIN
    clear HIN0 hb
    by_cases h9 : k9 = 9
    · subst h9
      have HEND := Lib.hid (fun h => (codeOk_all ⟨by omega, h1⟩ (by rw [hlast]) h).symm.trans hR)
      have HNO := Lib.hid (fun i (hi : i < xs.length) h => hR.symm.trans (codeOk_not (xs := xs) hi h))
      have HST := Lib.hid (fun i (hi : i < xs.length) => all_step (p := okIn xs.length) hi)
      have HRG := Lib.hid hrg
      have HR := Lib.hid (fun W (h : Below w.heap.size w W) => hr.below h)
      have HN := Lib.hid hM
      have q9 : ((9 : Int) != 9) = false := by decide
      have hM2 : M ≤ 1499 := by omega
      rw [hM] at HEND ⊢
      obtain ⟨N, hN⟩ : ∃ N, M + 1 = N := ⟨_, rfl⟩
      have HNN := Lib.hid hN
      rw [hN] at HEND wz wy i2 HIN ⊢
      have hN2 : N ≤ 1500 := by omega
      clear hr hrg hR hl62 h1 hM hMl hx h0 hlast la0 hN
      go_enter Tryd.func20, Tryd.ntmps20
      go_wp2_with fail
      refine (HIN.out _).mono ?_
      rintro e w2 ⟨rfl, rfl⟩
      go_wp2_with fail
      go_loopw [4] (fun vi wr => ∃ i : Nat, vi = .int .i64 i ∧ i ≤ N ∧ Hid (Below w.heap.size w wr) ∧ Hid ((xs.take i).all (okIn xs.length) = true)) (fun vi _ => N - (intOf vi).toNat)
      case atStart => exact ⟨0, rfl, by omega, Lib.hid (Below.refl _ _), Lib.hid (by simp)⟩
      case round =>
        clear p0 i1 i2 HIN
        obtain ⟨i, rfl, hi, HB, HA⟩ := hrel
        by_cases hp : i < N
        · have hp' : i < xs.length := by rw [HN.out, HNN.out]; exact hp
          obtain ⟨a, hae, la, p0, p1⟩ := (HR.out wr HB.out).item hp'
          injection hae with hae
          subst hae
          have HNO2 := Lib.hid (HNO.out i hp')
          have HST2 := Lib.hid (HST.out i hp' HA.out)
          have hsm := HRG.out _ (List.getElem_mem hp')
          rw [HN.out, HNN.out] at HNO2 HST2
          obtain ⟨x, hx⟩ : ∃ x, xs[i] = x := ⟨_, rfl⟩
          rw [hx] at p0 p1 HNO2 HST2 hsm
          obtain ⟨k, n⟩ := x
          simp only at p0 p1 hsm
          have i1 : (0 : Int) ≤ (i : Int) := by omega
          have i2 : (i : Int) < (N : Int) := by omega
          have BX := Lib.hid (HB.out.alloc HB.out.size (.cells #[.int .i64 k, .int .i64 n] 25))
          have KX := Lib.hid (fun W (h : Below (wr.alloc (.cells #[.int .i64 k, .int .i64 n] 25)).heap.size (wr.alloc (.cells #[.int .i64 k, .int .i64 n] 25)) W) => ((Blk.new wr 25 #[.int .i64 k, .int .i64 n]).below h (Blk.new wr 25 #[.int .i64 k, .int .i64 n]).lt))
          have HPN := Lib.hid (fun W => spec_primname n hsm.2.1 hsm.2.2 W)
          have HEM := Lib.hid (primN_empty n)
          have HYES : Hid (okIn N (k, n) = true → (xs.take (i + 1)).all (okIn xs.length) = true) := Lib.hid (fun hc => by have := HST2.out hc; rw [HN.out, HNN.out]; exact this)
          clear hx la hp' hsm HA HST2
          rcases kindsC k with rfl | rfl | h | h | h
          · have HCI := Lib.hid (fun W => in_any n (-2147483648) 2147483647 W)
            have hd : okIn N (0, n) = inB n (-2147483648) 2147483647 := by rw [okIn_0]; simp [inB]
            rw [hd] at HNO2 HYES
            obtain ⟨b, hb⟩ : ∃ b, inB n (-2147483648) 2147483647 = b := ⟨_, rfl⟩
            rw [hb] at HCI HNO2 HYES
            clear hd hb HPN HEM KX
            cases b with
            | true =>
              clear HNO2
              have HA2 := Lib.hid (HYES.out rfl)
              clear HYES
              go_wp2_with fail
              refine (HCI.out _).mono ?_
              rintro e w2 ⟨rfl, rfl⟩
              go_wp2_with fail
              go_roundw
              case rel => exact ⟨i + 1, by go_num, by omega, BX, HA2⟩
              case measure => simp [intOf]; omega
            | false =>
              have HE : Hid (R = false) := Lib.hid (HNO2.out rfl)
              clear HNO2 HYES
              go_wp2_with fail
              refine (HCI.out _).mono ?_
              rintro e w2 ⟨rfl, rfl⟩
              go_wp2_with fail
              go_ret
              exact ⟨by rw [HE.out]; rfl, BX.out⟩
          · rw [okIn_1] at HNO2 HYES
            have hem := HEM.out
            generalize primN n = nm at hem HPN
            generalize decide (0 ≤ n ∧ n ≤ 23) = b at hem HNO2 HYES
            clear HEM
            cases b with
            | true =>
              clear HNO2
              have HA2 := Lib.hid (HYES.out rfl)
              clear HYES KX
              go_wp2_with fail
              refine (HPN.out _).mono ?_
              rintro e w2 ⟨rfl, hb2⟩
              have HB2 := Lib.hid (BX.out.trans (hb2.mono BX.out.size))
              clear hb2 BX
              go_wp2_with fail
              go_roundw
              case rel => exact ⟨i + 1, by go_num, by omega, HB2, HA2⟩
              case measure => simp [intOf]; omega
            | false =>
              have HE : Hid (R = false) := Lib.hid (HNO2.out rfl)
              clear HNO2 HYES KX
              go_wp2_with fail
              refine (HPN.out _).mono ?_
              rintro e w2 ⟨rfl, hb2⟩
              have HB2 := Lib.hid (BX.out.trans (hb2.mono BX.out.size))
              clear hb2 BX
              go_wp2_with fail
              go_ret
              exact ⟨by rw [HE.out]; rfl, HB2.out⟩
          · have HCI := Lib.hid (fun W => in_any n 0 ((N : Int) - 1) W)
            have hd : okIn N (k, n) = inB n 0 ((N : Int) - 1) := by
              rw [okIn_at _ _ h]
              unfold inB
              congr 1
              apply propext
              omega
            rw [hd] at HNO2 HYES
            obtain ⟨b, hb⟩ : ∃ b, inB n 0 ((N : Int) - 1) = b := ⟨_, rfl⟩
            rw [hb] at HCI HNO2 HYES
            have wz2 : IntKind.i64.wrap ((N : Int) - 1) = (N : Int) - 1 := IntWalk.i64_in _ (by omega)
            clear hd hb HPN HEM KX wz wy
            cases b with
            | true =>
              clear HNO2
              have HA2 := Lib.hid (HYES.out rfl)
              clear HYES
              rcases h with rfl | rfl | rfl | rfl | rfl
              all_goals
                go_wp2_with fail
                refine (HCI.out _).mono ?_
                rintro e w2 ⟨rfl, rfl⟩
                go_wp2_with fail
                go_roundw
                case rel => exact ⟨i + 1, by go_num, by omega, BX, HA2⟩
                case measure => simp [intOf]; omega
            | false =>
              have HE : Hid (R = false) := Lib.hid (HNO2.out rfl)
              clear HNO2 HYES
              rcases h with rfl | rfl | rfl | rfl | rfl
              all_goals
                go_wp2_with fail
                refine (HCI.out _).mono ?_
                rintro e w2 ⟨rfl, rfl⟩
                go_wp2_with fail
                go_ret
                exact ⟨by rw [HE.out]; rfl, BX.out⟩
          · have hd : okIn N (k, n) = (n == 0) := by
              rw [okIn_no _ _ h]
              by_cases hz : n = 0 <;> simp [hz]
            rw [hd] at HNO2 HYES
            clear hd HPN HEM KX
            by_cases hz : n = 0
            · subst hz
              have HA2 := Lib.hid (HYES.out rfl)
              clear HYES HNO2
              rcases h with rfl | rfl | rfl
              all_goals
                go_wp2_with fail
                go_roundw
                case rel => exact ⟨i + 1, by go_num, by omega, BX, HA2⟩
                case measure => simp [intOf]; omega
            · have hq : (n == 0) = false := by simpa using hz
              have HE : Hid (R = false) := Lib.hid (HNO2.out hq)
              clear HNO2 HYES hz
              rcases h with rfl | rfl | rfl
              all_goals
                go_wp2_with fail
                go_ret
                exact ⟨by rw [HE.out]; rfl, BX.out⟩
          · have HE : Hid (R = false) := Lib.hid (HNO2.out (okIn_other h))
            obtain ⟨q0, q1, q2, q3, q4, q5, q7, q6, q8, q9⟩ := h
            clear HNO2 HYES HPN HEM KX
            go_wp2_with fail
            go_ret
            exact ⟨by rw [HE.out]; rfl, BX.out⟩
        · obtain rfl : i = N := by omega
          have HE : Hid (R = true) := Lib.hid (by have h := HA.out; have h2 := HEND.out; rw [HN.out, HNN.out] at h; exact (h2 (by exact_mod_cast h)).symm)
          clear HA HR HEND HNO HST
          go_wp2_with fail
          go_ret
          exact ⟨by rw [HE.out]; rfl, HB.out⟩
    · have HE : Hid (R = false) := Lib.hid (hR.symm.trans (codeOk_last (by rw [hlast]; exact h9)))
      have q9 : (k9 != 9) = true := by simpa using h9
      rw [hM]
      have hM2 : M ≤ 1499 := by omega
      obtain ⟨N, hN⟩ : ∃ N, M + 1 = N := ⟨_, rfl⟩
      rw [hN] at wz wy i2 HIN ⊢
      have hN2 : N ≤ 1500 := by omega
      clear hr hrg hR hl62 h1 hM hMl hx h0 hlast h9 hN
      go_enter Tryd.func20, Tryd.ntmps20
      go_wp2_with fail
      refine (HIN.out _).mono ?_
      rintro e w2 ⟨rfl, rfl⟩
      go_wp2_with fail
      go_ret
      exact ⟨by rw [HE.out]; rfl, by go_grown⟩
  · have HE : Hid (R = false) := Lib.hid (hR.symm.trans (codeOk_len (by omega)))
    obtain ⟨N, hN⟩ : ∃ N, xs.length = N := ⟨_, rfl⟩
    rw [hN] at h1 h0 hl62 ⊢
    have hb : inB (N : Int) 1 1500 = false := inB_false (by omega)
    have HIN := Lib.hid (fun W => HIN0.out (N : Int) W)
    rw [hb] at HIN
    clear hr hrg hR h1 h0 hN HIN0 hb
    go_enter Tryd.func20, Tryd.ntmps20
    go_wp2_with fail
    refine (HIN.out _).mono ?_
    rintro e w2 ⟨rfl, rfl⟩
    go_wp2_with fail
    go_ret
    exact ⟨by rw [HE.out]; rfl, by go_grown⟩
end Go.Proofs.YthihfgjolioabaaDoor
