/-
  NameOk, of the program and of its model, tells whether a text is a name.
-/
import Derived.Test.YthihfgjolioabaaLetters2
import Derived.Deep.QuietTactic
import Derived.BigQuiet
namespace Go.Proofs.Ythihfgjolioabaa
open Go.RowKit

set_option maxHeartbeats 1000000 in
theorem spec_nameok (s : ByteArray) (hs : s.size ≤ 4611686018427387904) (w : World) : Calls Try.prog 39 #[.string s] w fun e w' => e = .returned (.bool (nameOk s)) ∧ w = w' := by
  have HI := Lib.hid (in_any (s.size : Int) 1 24 w)
  by_cases h : 1 ≤ s.size ∧ s.size ≤ 24
  · have hb := Lib.hid (inB_true (x := (s.size : Int)) (a := 1) (b := 24) (by omega) (by omega))
    obtain ⟨v, hv⟩ : ∃ v, nameOk s = v := ⟨_, rfl⟩
    have HY : Hid ((∀ (i : Nat) (h : i < s.size), nameByte s[i] = true) → v = true) := Lib.hid fun h2 => hv ▸ nameOk_yes h.1 h.2 h2
    have HN : Hid (∀ (i : Nat) (h : i < s.size), nameByte s[i] = false → v = false) := Lib.hid fun i hi h2 => hv ▸ nameOk_no hi h2
    rw [hv]
    have h24 := h.2
    clear h hv
    go_enter Try.func39, Try.ntmps39
    go_wp2_with fail
    refine HI.out.mono ?_
    rintro e w' ⟨he, rfl⟩
    rw [hb.out] at he
    subst he
    go_wp2_with fail
    go_loop [3] (fun i => ∃ k : Nat, k ≤ s.size ∧ i = .int .i64 k ∧ Hid (∀ (j : Nat) (hj : j < s.size), j < k → nameByte s[j] = true)) (fun i => s.size - (intOf i).toNat)
    case atStart => exact ⟨0, by omega, rfl, Lib.hid fun j _ h => by omega⟩
    case round =>
      obtain ⟨k, hk, rfl, HK⟩ := hrel
      by_cases hlt : k < s.size
      · have hck := u8_le s[k]
        have hr := letOf_range s[k]
        have HL : Hid (∀ W, Calls Try.prog 52 #[.int .u8 (s[k].toNat : Int)] W fun e w' => e = .returned (.int .i64 (letOf s[k])) ∧ W = w') := Lib.hid fun W => spec_letterof s[k] W
        have HQ : Hid (nameByte s[k] = decide (1 ≤ letOf s[k])) := Lib.hid rfl
        obtain ⟨x, hx⟩ : ∃ x, letOf s[k] = x := ⟨_, rfl⟩
        rw [hx] at hr HL HQ
        clear hx
        obtain ⟨hr0, hr1⟩ := hr
        by_cases he : x < 1
        · have HV := Lib.hid (HN.out k hlt (by rw [HQ.out]; simpa using he))
          go_wp2_with fail
          refine (HL.out _).mono ?_
          rintro e w' ⟨rfl, rfl⟩
          go_wp2_with fail
          go_ret
          exact ⟨by rw [HV.out]; rfl, rfl⟩
        · have HK2 : Hid (∀ (j : Nat) (hj : j < s.size), j < k + 1 → nameByte s[j] = true) := Lib.hid fun j hj h => by
            rcases Nat.lt_or_ge j k with h2 | h2
            · exact HK.out j hj h2
            · obtain rfl : j = k := by omega
              rw [HQ.out]
              simp; omega
          go_wp2_with fail
          refine (HL.out _).mono ?_
          rintro e w' ⟨rfl, rfl⟩
          go_wp2_with fail
          go_round
          case rel => exact ⟨k + 1, by omega, by go_num, HK2⟩
          case measure => simp [intOf]; omega
      · have HV := Lib.hid (HY.out fun j hj => HK.out j hj (by omega))
        go_wp2
        go_ret
        exact ⟨by rw [HV.out]; rfl, rfl⟩
  · rw [nameOk_size h]
    have hb := Lib.hid (inB_false (x := (s.size : Int)) (a := 1) (b := 24) (by omega))
    clear h
    go_enter Try.func39, Try.ntmps39
    go_wp2_with fail
    refine HI.out.mono ?_
    rintro e w' ⟨he, rfl⟩
    rw [hb.out] at he
    subst he
    go_wp2_with fail
    go_ret
    exact ⟨rfl, rfl⟩

set_option maxHeartbeats 1000000 in
theorem impl_nameok (s : ByteArray) (hs : s.size ≤ 4611686018427387904) (w : World) : Calls Try.prog 43 #[.string s] w fun e w' => e = .returned (.bool (nameOk s)) ∧ w = w' := by
  obtain ⟨v, hv⟩ : ∃ v, nameOk s = v := ⟨_, rfl⟩
  have HY : Hid (1 ≤ s.size → s.size ≤ 24 → (∀ (i : Nat) (h : i < s.size), nameByte s[i] = true) → v = true) := Lib.hid fun h0 h1 h2 => hv ▸ nameOk_yes h0 h1 h2
  have HN : Hid (∀ (i : Nat) (h : i < s.size), nameByte s[i] = false → v = false) := Lib.hid fun i hi h2 => hv ▸ nameOk_no hi h2
  have HZ : Hid (¬ (1 ≤ s.size ∧ s.size ≤ 24) → v = false) := Lib.hid fun h => hv ▸ nameOk_size h
  rw [hv]
  clear hv
  go_enter Try.func43, Try.ntmps43
  go_wp2_with fail
  refine wp_scope_jumps 0 (fun a' w' => w' = w ∧ v = false ∧ ∃ u0 u1 u2 u3 u4 u5 u6 u7 u8 u9 u10 u11 u12 u13 u14 u15 u16 u17 u18 u19 u20 u21 u22 u23 u24 u25 u26 u27 : Value, a' = { tmps := #[u0, u1, u2, u3, u4, u5, u6, u7, u8, u9, u10, u11, u12, u13, u14, u15, u16, u17, u18, u19, u20, u21, u22, u23, u24, u25, u26, u27], defers := [] }) (fun _ _ => 0) rfl ?_ ?_
  · by_cases h0 : s.size = 0
    · obtain rfl : s = ⟨#[]⟩ := by
        apply ByteArray.ext
        apply Array.ext'
        exact List.length_eq_zero_iff.1 (by simpa using h0)
      have HV := HZ.out (by omega)
      clear h0 hs HY HN HZ
      go_wp2
      go_step3
      exact ⟨rfl, rfl, HV, _, _, _, _, _, _, _, _, _, _, _, _, _, _, _, _, _, _, _, _, _, _, _, _, _, _, _, _, rfl⟩
    · have e1 : s.toList.isEmpty = false := by
        rw [ByteArray.toList_eq]
        simp
        intro h
        exact h0 (by show s.data.size = 0; rw [h]; rfl)
      by_cases h : s.size ≤ 24
      · have HY2 := Lib.hid (HY.out (by omega) h)
        have h1 : 0 < s.size := by omega
        clear h0 HZ HY
        go_wp2_with fail
        go_loop [13] (fun i => ∃ k : Nat, k ≤ s.size ∧ i = .int .i64 k ∧ Hid (∀ (j : Nat) (hj : j < s.size), j < k → nameByte s[j] = true)) (fun i => s.size - (intOf i).toNat)
        case atStart => exact ⟨0, by omega, rfl, Lib.hid fun j _ h => by omega⟩
        case round =>
          obtain ⟨k, hk, rfl, HK⟩ := hrel
          by_cases hlt : k < s.size
          · have hck := u8_le s[k]
            have hr := letOf_range s[k]
            have HL : Hid (∀ W, Calls Try.prog 56 #[.int .u8 (s[k].toNat : Int)] W fun e w' => e = .returned (.int .i64 (letOf s[k])) ∧ W = w') := Lib.hid fun W => impl_letterof s[k] W
            have HQ : Hid (nameByte s[k] = decide (1 ≤ letOf s[k])) := Lib.hid rfl
            have HB : Hid (s[k] = 32 → letOf s[k] = 0) := Lib.hid fun h => by rw [h]; exact letOf_blank
            have HB2 : Hid (letOf s[k] = 0 → s[k] = 32) := Lib.hid letOf_zero
            obtain ⟨x, hx⟩ : ∃ x, letOf s[k] = x := ⟨_, rfl⟩
            rw [hx] at hr HL HQ HB HB2
            clear hx
            obtain ⟨hr0, hr1⟩ := hr
            by_cases he : x < 0
            · have HV := Lib.hid (HN.out k hlt (by rw [HQ.out]; simp; omega))
              go_wp2_with fail
              refine (HL.out _).mono ?_
              rintro e w' ⟨rfl, rfl⟩
              go_wp2_with fail
              go_step3
              exact ⟨rfl, rfl, HV.out, _, _, _, _, _, _, _, _, _, _, _, _, _, _, _, _, _, _, _, _, _, _, _, _, _, _, _, _, rfl⟩
            · by_cases hb : s[k] = 32
              · have hb' : ((s[k].toNat : Int) == 32) = true := by rw [hb]; rfl
                have HV := Lib.hid (HN.out k hlt (by rw [HQ.out, HB.out hb]; rfl))
                have he2 : 0 ≤ x := by omega
                clear hb he
                go_wp2_with fail
                refine (HL.out _).mono ?_
                rintro e w' ⟨rfl, rfl⟩
                go_wp2_with fail
                go_step3
                exact ⟨rfl, rfl, HV.out, _, _, _, _, _, _, _, _, _, _, _, _, _, _, _, _, _, _, _, _, _, _, _, _, _, _, _, _, rfl⟩
              · have hb' : ((s[k].toNat : Int) == 32) = false := u8_ne (b := 32) hb
                have hx1 : 1 ≤ x := by
                  rcases Int.lt_or_le x 1 with h2 | h2
                  · exact absurd (HB2.out (by omega)) hb
                  · exact h2
                have HK2 : Hid (∀ (j : Nat) (hj : j < s.size), j < k + 1 → nameByte s[j] = true) := Lib.hid fun j hj h => by
                  rcases Nat.lt_or_ge j k with h2 | h2
                  · exact HK.out j hj h2
                  · obtain rfl : j = k := by omega
                    rw [HQ.out]
                    simp; omega
                clear hb he
                go_wp2_with fail
                refine (HL.out _).mono ?_
                rintro e w' ⟨rfl, rfl⟩
                go_wp2_with fail
                go_round
                case rel => exact ⟨k + 1, by omega, by go_num, HK2⟩
                case measure => simp [intOf]; omega
          · have HV := Lib.hid (HY2.out fun j hj => HK.out j hj (by omega))
            go_wp2
            simp only [Exit.jump]
            go_ret
            exact ⟨by rw [HV.out]; rfl, rfl⟩
      · have HV := Lib.hid (HZ.out (by omega))
        clear h0 HY HN HZ
        go_wp2_with fail
        go_step3
        exact ⟨rfl, rfl, HV.out, _, _, _, _, _, _, _, _, _, _, _, _, _, _, _, _, _, _, _, _, _, _, _, _, _, _, _, _, rfl⟩
  · rintro a' w' ⟨rfl, rfl, u0, u1, u2, u3, u4, u5, u6, u7, u8, u9, u10, u11, u12, u13, u14, u15, u16, u17, u18, u19, u20, u21, u22, u23, u24, u25, u26, u27, rfl⟩
    go_wp2_with fail
    simp only [Exit.jump]
    go_ret
    exact ⟨rfl, rfl⟩
end Go.Proofs.Ythihfgjolioabaa
