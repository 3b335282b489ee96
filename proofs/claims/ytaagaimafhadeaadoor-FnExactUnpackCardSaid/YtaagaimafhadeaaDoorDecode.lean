/-
  Decode, of the program and of its model, tells which letter's code stands first in a text of bits.
-/
import Derived.Test.YtaagaimafhadeaaDoorBitsOf
import Derived.Test.YtaagaimafhadeaaDoorDecodeMath
import Derived.Test.YtaagaimafhadeaaDoorArr
namespace Go.Proofs.YtaagaimafhadeaaDoor
open Go.RowKit

def codesArr : Array Value := (codesTab.map fun z => Value.int .u8 z).toArray
theorem codesArr_at (k : Nat) (hk : k < 48) : codesArr[k]? = some (.int .u8 (bitsOf k)) := by
  rw [← tab_bits k hk]
  unfold codesArr
  have h : k < codesTab.length := hk
  simp [List.getD, h]
theorem index_codes (k : Nat) (hk : k < 48) (w : World) : (Instr.index 62 (.agg codesArr) (.int .i64 (k : Int))).run Tryd.prog w = .ok (.int .u8 (bitsOf k)) w :=
  run_index_arr 62 5 48 codesArr k _ .u8 w Tryd.underlying62 Tryd.underlying5 (by kernel_rfl) hk (codesArr_at k hk)
theorem infoCodes : (Tryd.prog.info? 62).map (·.size) = some codesArr.size := by kernel_rfl
theorem loadCodes {w : World} (hc : Codes w) : ∃ t fr, w.heap[0]? = some (.cells codesArr t fr) := heap_of_var gCodes hc.2

set_option maxHeartbeats 1000000 in
theorem impl_decode (x : Nat) (n : Int) (w : World) (hc : Codes w) : Calls Tryd.prog 42 #[.int .u32 x, .int .i64 n] w fun e w' => e = .returned (.tuple #[.int .i64 (decode x n).1, .int .i64 (decode x n).2]) ∧ w = w' := by
  by_cases h : 1 ≤ n ∧ n ≤ 32
  · obtain ⟨m, rfl⟩ : ∃ m : Nat, n = m := ⟨n.toNat, by omega⟩
    have h1 : 1 ≤ m := by omega
    have h2 : m ≤ 32 := by omega
    obtain ⟨p, q, hpq⟩ : ∃ p q, decode x (m : Int) = (p, q) := ⟨_, _, rfl⟩
    have hN : decodeN x m = (p, q) := by
      unfold decode at hpq
      rw [if_pos h] at hpq
      exact hpq
    have HY : Hid (∀ k : Nat, k < 48 → codeAt x m k = true → (∀ j, j < k → codeAt x m j = false) → p = (k : Int) ∧ q = widthOf k) := Lib.hid fun k a b c => by
      rw [decodeN_some a b c] at hN
      injection hN with e1 e2
      exact ⟨e1.symm, e2.symm⟩
    have HZ : Hid ((∀ j, j < 48 → codeAt x m j = false) → p = -1 ∧ q = 0) := Lib.hid fun c => by
      rw [decodeN_none c] at hN
      injection hN with e1 e2
      exact ⟨e1.symm, e2.symm⟩
    rw [hpq]
    clear hpq hN h
    obtain ⟨t, fr, hh⟩ := loadCodes hc
    have HH := Lib.hid hh
    have HIX : Hid (∀ (k : Nat), k < 48 → ∀ w, (Instr.index 62 (.agg codesArr) (.int .i64 (k : Int))).run Tryd.prog w = .ok (.int .u8 (bitsOf k)) w) := Lib.hid index_codes
    have HIF := Lib.hid infoCodes
    obtain ⟨arr, harr⟩ : ∃ arr, codesArr = arr := ⟨_, rfl⟩
    rw [harr] at HH HIX HIF
    clear hh harr hc
    have n1 : decide ((m : Int) < 1) = false := by simp; omega
    have n2 : decide (32 < (m : Int)) = false := by simp; omega
    go_enter Tryd.func42, Tryd.ntmps42
    go_wp2_with fail
    go_step3
    go_wp2_with (with_reducible refine wpList_load_row rfl _ _ rfl 0 rfl _ _ _ _ HH.out Tryd.underlying62 rfl HIF.out ?_)
    go_loop [21] (fun i => ∃ k : Nat, k ≤ 48 ∧ i = .int .i64 k ∧ Hid (∀ j, j < k → codeAt x m j = false)) (fun i => 48 - (intOf i).toNat)
    case atStart => exact ⟨0, by omega, rfl, Lib.hid fun j h => by omega⟩
    case round =>
      obtain ⟨k, hk, rfl, HK⟩ := hrel
      by_cases hlt : k < 48
      · have hlt' : decide ((k : Int) < 48) = true := by simp; omega
        have hr := bitsOf_range (k : Int)
        obtain ⟨b, hb⟩ : ∃ b, bitsOf (k : Int) = b := ⟨_, rfl⟩
        obtain ⟨d, hd, hd0, hd1⟩ := widthOf_nat hlt
        have hix := HIX.out k hlt w
        rw [hb] at hix
        have HWD := Lib.hid (impl_widthof (k : Int) w)
        rw [hd] at HWD
        rw [hb] at hr
        obtain ⟨hr0, hr1⟩ := hr
        have HD := Lib.hid hd
        have HB := Lib.hid hb
        clear hb hd
        by_cases hw : d ≤ m
        · have HT := Lib.hid (top_int x m d h2 hw)
          by_cases he : (x : Int) * 2 ^ (32 - m) % 4294967296 / 2 ^ (32 - d) = b
          · have hQ := Lib.hid (HY.out k hlt (codeAt_true HD.out HB.out hw HT.out he) HK.out)
            have he' : ((x : Int) * 2 ^ (32 - m) % 4294967296 / 2 ^ (32 - d) == b) = true := by simpa using he
            clear he
            go_wp2_with fail
            refine HWD.out.mono ?_
            rintro e w' ⟨rfl, rfl⟩
            go_wp2_with fail
            obtain ⟨rfl, e2⟩ := hQ.out
            rw [HD.out] at e2
            subst e2
            rw [Exit.noGoto_ret]
            go_ret2
            exact ⟨rfl, rfl⟩
          · have HK2 : Hid (∀ j, j < k + 1 → codeAt x m j = false) := Lib.hid fun j h => by
              rcases Nat.lt_or_ge j k with h2 | h2
              · exact HK.out j h2
              · obtain rfl : j = k := by omega
                exact codeAt_false HD.out HB.out HT.out he
            have he' : ((x : Int) * 2 ^ (32 - m) % 4294967296 / 2 ^ (32 - d) == b) = false := by simpa using he
            clear he
            go_wp2_with fail
            refine HWD.out.mono ?_
            rintro e w' ⟨rfl, rfl⟩
            go_wp2_with fail
            go_round
            case rel => exact ⟨k + 1, by omega, by go_num, HK2⟩
            case measure => simp [intOf]; omega
        · have HK2 : Hid (∀ j, j < k + 1 → codeAt x m j = false) := Lib.hid fun j h => by
            rcases Nat.lt_or_ge j k with h2 | h2
            · exact HK.out j h2
            · obtain rfl : j = k := by omega
              exact codeAt_short HD.out hw
          have hw' : m < d := by omega
          clear hw
          go_wp2_with fail
          refine HWD.out.mono ?_
          rintro e w' ⟨rfl, rfl⟩
          go_wp2_with fail
          go_round
          case rel => exact ⟨k + 1, by omega, by go_num, HK2⟩
          case measure => simp [intOf]; omega
      · have hlt' : decide ((k : Int) < 48) = false := by simp; omega
        have hQ := Lib.hid (HZ.out fun j hj => HK.out j (by omega))
        go_wp2_with fail
        go_step3
        go_wp2_with fail
        obtain ⟨rfl, rfl⟩ := hQ.out
        rw [Exit.noGoto_ret]
        go_ret2
        exact ⟨rfl, rfl⟩
  · have e : decode x n = (-1, 0) := by unfold decode; rw [if_neg h]
    rw [e]
    clear e hc
    go_enter Tryd.func42, Tryd.ntmps42
    go_wp2_with fail
    refine wp_scope_jumps 0 (fun a' w' => w' = w ∧ ∃ u0 u1 u2 u3 u4 u5 u6 u7 u8 u9 u10 u11 u12 u13 u14 u15 u16 u17 u18 u19 u20 u21 u22 u23 u24 u25 u26 u27 u28 u29 u30 u31 u32 u33 u34 u35 u36 u37 u38 u39 u40 u41 : Value, a' = { tmps := #[u0, u1, u2, u3, u4, u5, u6, u7, u8, u9, u10, u11, u12, u13, u14, u15, u16, u17, u18, u19, u20, u21, u22, u23, u24, u25, u26, u27, u28, u29, u30, u31, u32, u33, u34, u35, u36, u37, u38, u39, u40, u41], defers := [] }) (fun _ _ => 0) rfl ?_ ?_
    · by_cases h0 : n < 1
      · have h0' : decide (n < 1) = true := by simpa using h0
        clear h0 h
        go_wp2_with fail
        go_step3
        exact ⟨rfl, rfl, _, _, _, _, _, _, _, _, _, _, _, _, _, _, _, _, _, _, _, _, _, _, _, _, _, _, _, _, _, _, _, _, _, _, _, _, _, _, _, _, _, _, rfl⟩
      · have h0' : decide (n < 1) = false := by simpa using h0
        have h1' : decide (32 < n) = true := by simp; omega
        clear h0 h
        go_wp2_with fail
        go_step3
        exact ⟨rfl, rfl, _, _, _, _, _, _, _, _, _, _, _, _, _, _, _, _, _, _, _, _, _, _, _, _, _, _, _, _, _, _, _, _, _, _, _, _, _, _, _, _, _, _, rfl⟩
    · rintro a' w' ⟨rfl, u0, u1, u2, u3, u4, u5, u6, u7, u8, u9, u10, u11, u12, u13, u14, u15, u16, u17, u18, u19, u20, u21, u22, u23, u24, u25, u26, u27, u28, u29, u30, u31, u32, u33, u34, u35, u36, u37, u38, u39, u40, u41, rfl⟩
      go_wp2_with fail
      simp only [Exit.jump]
      go_ret2
      exact ⟨rfl, rfl⟩

set_option maxHeartbeats 1000000 in
theorem spec_decode (x : Nat) (hx : x < 4294967296) (n : Int) (w : World) : Calls Tryd.prog 45 #[.int .u32 x, .int .i64 n] w fun e w' => e = .returned (.tuple #[.int .i64 (decode x n).1, .int .i64 (decode x n).2]) ∧ w = w' := by
  by_cases h : 1 ≤ n ∧ n ≤ 32
  · obtain ⟨m, rfl⟩ : ∃ m : Nat, n = m := ⟨n.toNat, by omega⟩
    have h1 : 1 ≤ m := by omega
    have h2 : m ≤ 32 := by omega
    obtain ⟨p, q, hpq⟩ : ∃ p q, decode x (m : Int) = (p, q) := ⟨_, _, rfl⟩
    have hN : decodeN x m = (p, q) := by
      unfold decode at hpq
      rw [if_pos h] at hpq
      exact hpq
    have HY : Hid (∀ k : Nat, k < 48 → codeAt x m k = true → (∀ j, j < k → codeAt x m j = false) → p = (k : Int) ∧ q = widthOf k) := Lib.hid fun k a b c => by
      rw [decodeN_some a b c] at hN
      injection hN with e1 e2
      exact ⟨e1.symm, e2.symm⟩
    have HZ : Hid ((∀ j, j < 48 → codeAt x m j = false) → p = -1 ∧ q = 0) := Lib.hid fun c => by
      rw [decodeN_none c] at hN
      injection hN with e1 e2
      exact ⟨e1.symm, e2.symm⟩
    rw [hpq]
    clear hpq hN h
    have hb0 := Lib.hid (inB_true (x := (m : Int)) (a := 1) (b := 32) (by omega) (by omega))
    have HI := Lib.hid (in_any (m : Int) 1 32 w)
    go_enter Tryd.func45, Tryd.ntmps45
    go_wp2_with fail
    refine HI.out.mono ?_
    rintro e w' ⟨he, rfl⟩
    rw [hb0.out] at he
    subst he
    go_wp2_with fail
    go_loop [6] (fun i => ∃ k : Nat, k ≤ 48 ∧ i = .int .i64 k ∧ Hid (∀ j, j < k → codeAt x m j = false)) (fun i => 48 - (intOf i).toNat)
    case atStart => exact ⟨0, by omega, rfl, Lib.hid fun j h => by omega⟩
    case round =>
      obtain ⟨k, hk, rfl, HK⟩ := hrel
      by_cases hlt : k < 48
      · have hlt' : decide ((k : Int) < 48) = true := by simp; omega
        have hr := bitsOf_range (k : Int)
        obtain ⟨b, hb⟩ : ∃ b, bitsOf (k : Int) = b := ⟨_, rfl⟩
        obtain ⟨d, hd, hd0, hd1⟩ := widthOf_nat hlt
        have HWD := Lib.hid (spec_widthof (k : Int) w)
        rw [hd] at HWD
        have HBC := Lib.hid (spec_bitsof (k : Int) w)
        rw [hb] at HBC
        rw [hb] at hr
        obtain ⟨hr0, hr1⟩ := hr
        have HD := Lib.hid hd
        have HB := Lib.hid hb
        clear hb hd
        by_cases hw : d ≤ m
        · have HT := Lib.hid (mask_int x m d hx h2)
          by_cases he : bits BinOp.and IntKind.i64 (x : Int) (wrap64 (wrap64 ((2 : Int) ^ m) - 1)) / 2 ^ (m - d) = b
          · have hQ := Lib.hid (HY.out k hlt (codeAt_true HD.out HB.out hw HT.out he) HK.out)
            have he' : (bits BinOp.and IntKind.i64 (x : Int) (wrap64 (wrap64 ((2 : Int) ^ m) - 1)) / 2 ^ (m - d) == b) = true := by simpa using he
            clear he
            go_wp2_with fail
            refine HWD.out.mono ?_
            rintro e w' ⟨rfl, rfl⟩
            go_wp2_with fail
            refine HBC.out.mono ?_
            rintro e w' ⟨rfl, rfl⟩
            go_wp2_with fail
            obtain ⟨rfl, e2⟩ := hQ.out
            rw [HD.out] at e2
            subst e2
            go_ret2
            exact ⟨rfl, rfl⟩
          · have HK2 : Hid (∀ j, j < k + 1 → codeAt x m j = false) := Lib.hid fun j h => by
              rcases Nat.lt_or_ge j k with h2 | h2
              · exact HK.out j h2
              · obtain rfl : j = k := by omega
                exact codeAt_false HD.out HB.out HT.out he
            have he' : (bits BinOp.and IntKind.i64 (x : Int) (wrap64 (wrap64 ((2 : Int) ^ m) - 1)) / 2 ^ (m - d) == b) = false := by simpa using he
            clear he
            go_wp2_with fail
            refine HWD.out.mono ?_
            rintro e w' ⟨rfl, rfl⟩
            go_wp2_with fail
            refine HBC.out.mono ?_
            rintro e w' ⟨rfl, rfl⟩
            go_wp2_with fail
            go_round
            case rel => exact ⟨k + 1, by omega, by go_num, HK2⟩
            case measure => simp [intOf]; omega
        · have HK2 : Hid (∀ j, j < k + 1 → codeAt x m j = false) := Lib.hid fun j h => by
            rcases Nat.lt_or_ge j k with h2 | h2
            · exact HK.out j h2
            · obtain rfl : j = k := by omega
              exact codeAt_short HD.out hw
          have hw' : m < d := by omega
          clear hw
          go_wp2_with fail
          refine HWD.out.mono ?_
          rintro e w' ⟨rfl, rfl⟩
          go_wp2_with fail
          go_round
          case rel => exact ⟨k + 1, by omega, by go_num, HK2⟩
          case measure => simp [intOf]; omega
      · have hlt' : decide ((k : Int) < 48) = false := by simp; omega
        have hQ := Lib.hid (HZ.out fun j hj => HK.out j (by omega))
        go_wp2_with fail
        obtain ⟨rfl, rfl⟩ := hQ.out
        go_ret2
        exact ⟨rfl, rfl⟩
  · have e : decode x n = (-1, 0) := by unfold decode; rw [if_neg h]
    rw [e]
    have hb := Lib.hid (inB_false h)
    have HI := Lib.hid (in_any n 1 32 w)
    clear e h
    go_enter Tryd.func45, Tryd.ntmps45
    go_wp2_with fail
    refine HI.out.mono ?_
    rintro e w' ⟨he, rfl⟩
    rw [hb.out] at he
    subst he
    go_wp2_with fail
    go_ret2
    exact ⟨rfl, rfl⟩
end Go.Proofs.YtaagaimafhadeaaDoor
