/-
  The cells of items in the model, what the items draws need (cut out of the templates of chapters 2 to 4).
-/
import Derived.Test.YtcddkcejjajlhaaKit
import Derived.Test.YtcddkcejjajlhaaLaw
import Derived.Test.YtcddkcejjajlhaaBlk
import Derived.Test.YtcddkcejjajlhaaIn
import Derived.Test.YtcddkcejjajlhaaOwn
import Derived.Test.YtcddkcejjajlhaaU32
import Derived.Test.YtcddkcejjajlhaaToU
import Derived.Lib.Bytealg
import Derived.Lib.IndexLaws
import Derived.Test.YtcddkcejjajlhaaShelf
import Derived.Deep.QuietTactic
import Derived.BigQuiet
import Derived.Laws.IdiomStrings
import Derived.Laws.AppendOwn
import Derived.OwnWalk
import GoSem.Claims
import Derived.RegionTactic
import Derived.ChangeAlike
import Derived.Handy
import Derived.Deep.RegionHeld3
import Derived.Laws.StructEq
import Derived.Laws.BitsAllLaws
import Derived.Laws.BitsLemmas
import Derived.BigCall
import Derived.BigGuard
import Derived.Laws.BytesArg
namespace Go.Proofs.Ytcddkcejjajlhaa

def lets : ByteArray := ⟨#[32, 114, 116, 111, 101, 97, 110, 105, 115, 109, 99, 121, 108, 103, 102, 119, 100, 118, 112, 98, 104, 120, 117, 113, 48, 49, 50, 51, 52, 53, 54, 55, 56, 57, 106, 45, 107, 46, 122, 47, 59, 39, 33, 43, 64, 42, 44, 63]⟩
theorem lets_size : lets.size = 48 := rfl
/-- The number of a byte's letter; -1 where it is none. -/
def letOf (c : UInt8) : Int := Lib.indexByte lets.data.toList c
def widthOf (k : Int) : Int := if k < 0 then 0 else if k < 8 then 4 else if k < 16 then 5 else if k < 48 then 7 else 0
def bitsOf (k : Int) : Int := if k < 0 then 0 else if k < 8 then k else if k < 16 then k + 8 else if k < 48 then k + 80 else 0
theorem widthOf_nat {k : Nat} (h : k < 48) : ∃ d : Nat, widthOf (k : Int) = (d : Int) ∧ 4 ≤ d ∧ d ≤ 7 := by
  unfold widthOf
  by_cases h0 : k < 8
  · exact ⟨4, by rw [if_neg (by omega), if_pos (by omega)]; rfl, by omega, by omega⟩
  · by_cases h1 : k < 16
    · exact ⟨5, by rw [if_neg (by omega), if_neg (by omega), if_pos (by omega)]; rfl, by omega, by omega⟩
    · exact ⟨7, by rw [if_neg (by omega), if_neg (by omega), if_neg (by omega), if_pos (by omega)]; rfl, by omega, by omega⟩
theorem letOf_range (c : UInt8) : -1 ≤ letOf c ∧ letOf c ≤ 47 := by
  have h := Lib.indexByte_ge lets.data.toList c
  refine ⟨h, ?_⟩
  rcases Int.lt_or_le (letOf c) 0 with h0 | h0
  · omega
  · obtain ⟨o, ho⟩ : ∃ o : Nat, letOf c = o := ⟨(letOf c).toNat, by omega⟩
    have h1 := (Lib.indexByte_some (show Lib.indexByte lets.data.toList c = o from ho)).1
    have h2 : o < lets.data.toList.length := (List.getElem?_eq_some_iff.1 h1).1
    have h3 : lets.data.toList.length = 48 := rfl
    omega
theorem letOf_first {c : UInt8} {k : Nat} (h : k < 48) (he : lets[k]'(by rw [lets_size]; exact h) = c) (hn : ∀ j (hj : j < k), lets[j]'(by rw [lets_size]; omega) ≠ c) : letOf c = k := by
  have hk : lets.data.toList[k]? = some c := by
    rw [List.getElem?_eq_getElem (by show k < 48; exact h)]
    exact congrArg some he
  rcases Int.lt_or_le (letOf c) 0 with h0 | h0
  · have : Lib.indexByte lets.data.toList c = -1 := by have := (letOf_range c).1; unfold letOf at *; omega
    exact absurd hk (Lib.indexByte_none this k)
  · obtain ⟨o, ho⟩ : ∃ o : Nat, letOf c = o := ⟨(letOf c).toNat, by omega⟩
    obtain ⟨h1, h2⟩ := Lib.indexByte_some (show Lib.indexByte lets.data.toList c = o from ho)
    have h3 : o < lets.data.toList.length := (List.getElem?_eq_some_iff.1 h1).1
    rw [ho]
    rcases Nat.lt_trichotomy o k with h4 | h4 | h4
    · exfalso
      rw [List.getElem?_eq_getElem h3] at h1
      exact hn o h4 (Option.some.inj h1)
    · rw [h4]
    · exact absurd hk (h2 k h4)
theorem letOf_none {c : UInt8} (hn : ∀ j (hj : j < 48), lets[j]'(by rw [lets_size]; exact hj) ≠ c) : letOf c = -1 := by
  rcases Int.lt_or_le (letOf c) 0 with h0 | h0
  · have := (letOf_range c).1; omega
  · obtain ⟨o, ho⟩ : ∃ o : Nat, letOf c = o := ⟨(letOf c).toNat, by omega⟩
    obtain ⟨h1, h2⟩ := Lib.indexByte_some (show Lib.indexByte lets.data.toList c = o from ho)
    have h3 : o < lets.data.toList.length := (List.getElem?_eq_some_iff.1 h1).1
    rw [List.getElem?_eq_getElem h3] at h1
    exact absurd (Option.some.inj h1) (hn o h3)
/-- Whether a byte is a name's. -/
def nameByte (c : UInt8) : Bool := decide (1 ≤ letOf c)
/-- Whether a text is a name. -/
def nameOk (s : ByteArray) : Bool := decide (1 ≤ s.size ∧ s.size ≤ 24 ∧ ∀ (i : Nat) (h : i < s.size), nameByte s[i] = true)
theorem nameOk_yes {s : ByteArray} (h0 : 1 ≤ s.size) (h1 : s.size ≤ 24) (h : ∀ (i : Nat) (h : i < s.size), nameByte s[i] = true) : nameOk s = true := decide_eq_true ⟨h0, h1, h⟩
theorem nameOk_no {s : ByteArray} {i : Nat} (hi : i < s.size) (h : nameByte s[i] = false) : nameOk s = false := decide_eq_false fun ⟨_, _, h2⟩ => by rw [h2 i hi] at h; cases h
theorem nameOk_size {s : ByteArray} (h : ¬ (1 ≤ s.size ∧ s.size ≤ 24)) : nameOk s = false := decide_eq_false fun ⟨h1, h2, _⟩ => h ⟨h1, h2⟩
end Go.Proofs.Ytcddkcejjajlhaa


namespace Go.Proofs.Ytcddkcejjajlhaa
open Go.RowKit

theorem lets_any (w : World) : Calls Try.prog 100 #[] w fun e w' => e = .returned (.string lets) ∧ w = w' := by
  go_enter Try.func100, Try.ntmps100
  go_wp2
  go_ret
  exact ⟨rfl, rfl⟩

end Go.Proofs.Ytcddkcejjajlhaa


namespace Go.Proofs.Ytcddkcejjajlhaa
open Go.RowKit

theorem spec_widthof (k : Int) (w : World) : Calls Try.prog 102 #[.int .i64 k] w fun e w' => e = .returned (.int .i64 (widthOf k)) ∧ w = w' := by
  have HI : ∀ a b, Hid (Calls Try.prog 71 #[.int .i64 k, .int .i64 a, .int .i64 b] w fun e w' => e = .returned (.bool (inB k a b)) ∧ w = w') := fun a b => Lib.hid (in_any k a b w)
  by_cases h0 : inB k 0 7 = true
  · have e : widthOf k = 4 := by
      rw [inB_iff] at h0
      unfold widthOf
      rw [if_neg (by omega), if_pos (by omega)]
    rw [e]
    have H0 := Lib.hid h0
    clear h0 e
    go_enter Try.func102, Try.ntmps102
    go_wp2_with fail
    refine (HI 0 7).out.mono ?_
    rintro e w' ⟨he, rfl⟩
    rw [H0.out] at he
    subst he
    go_wp2_with fail
    go_ret
    exact ⟨rfl, rfl⟩
  · by_cases h1 : inB k 8 15 = true
    · have e : widthOf k = 5 := by
        rw [inB_iff] at h0 h1
        unfold widthOf
        rw [if_neg (by omega), if_neg (by omega), if_pos (by omega)]
      rw [e]
      have H0 := Lib.hid (show inB k 0 7 = false by simpa using h0)
      have H1 := Lib.hid h1
      clear h0 h1 e
      go_enter Try.func102, Try.ntmps102
      go_wp2_with fail
      refine (HI 0 7).out.mono ?_
      rintro e w' ⟨he, rfl⟩
      rw [H0.out] at he
      subst he
      go_wp2_with fail
      refine (HI 8 15).out.mono ?_
      rintro e w' ⟨he, rfl⟩
      rw [H1.out] at he
      subst he
      go_wp2_with fail
      go_ret
      exact ⟨rfl, rfl⟩
    · have H0 := Lib.hid (show inB k 0 7 = false by simpa using h0)
      have H1 := Lib.hid (show inB k 8 15 = false by simpa using h1)
      have H3 : Hid (widthOf k = if inB k 16 47 then 7 else 0) := Lib.hid (by
        rw [inB_iff] at h0 h1
        by_cases h2 : inB k 16 47 = true
        · rw [if_pos h2]
          rw [inB_iff] at h2
          unfold widthOf
          rw [if_neg (by omega), if_neg (by omega), if_neg (by omega), if_pos (by omega)]
        · rw [if_neg h2]
          rw [inB_iff] at h2
          unfold widthOf
          by_cases h4 : k < 0
          · rw [if_pos h4]
          · rw [if_neg h4, if_neg (by omega), if_neg (by omega), if_neg (by omega)])
      rw [H3.out]
      clear h0 h1
      by_cases h2 : inB k 16 47 = true
      · rw [if_pos h2]
        have H2 := Lib.hid h2
        clear h2
        go_enter Try.func102, Try.ntmps102
        go_wp2_with fail
        refine (HI 0 7).out.mono ?_
        rintro e w' ⟨he, rfl⟩
        rw [H0.out] at he
        subst he
        go_wp2_with fail
        refine (HI 8 15).out.mono ?_
        rintro e w' ⟨he, rfl⟩
        rw [H1.out] at he
        subst he
        go_wp2_with fail
        refine (HI 16 47).out.mono ?_
        rintro e w' ⟨he, rfl⟩
        rw [H2.out] at he
        subst he
        go_wp2_with fail
        go_ret
        exact ⟨rfl, rfl⟩
      · rw [if_neg h2]
        have H2 := Lib.hid (show inB k 16 47 = false by simpa using h2)
        clear h2
        go_enter Try.func102, Try.ntmps102
        go_wp2_with fail
        refine (HI 0 7).out.mono ?_
        rintro e w' ⟨he, rfl⟩
        rw [H0.out] at he
        subst he
        go_wp2_with fail
        refine (HI 8 15).out.mono ?_
        rintro e w' ⟨he, rfl⟩
        rw [H1.out] at he
        subst he
        go_wp2_with fail
        refine (HI 16 47).out.mono ?_
        rintro e w' ⟨he, rfl⟩
        rw [H2.out] at he
        subst he
        go_wp2_with fail
        go_ret
        exact ⟨rfl, rfl⟩

set_option maxHeartbeats 1000000 in
theorem spec_letterof (c : UInt8) (w : World) : Calls Try.prog 101 #[.int .u8 (c.toNat : Int)] w fun e w' => e = .returned (.int .i64 (letOf c)) ∧ w = w' := by
  have HL := Lib.hid (lets_any w)
  have HF : Hid (∀ (k : Nat) (h : k < 48), lets[k]'(by rw [lets_size]; exact h) = c → (∀ (j : Nat) (hj : j < k), lets[j]'(by rw [lets_size]; omega) ≠ c) → letOf c = k) := Lib.hid fun k h => letOf_first h
  have HN : Hid ((∀ (j : Nat) (hj : j < 48), lets[j]'(by rw [lets_size]; exact hj) ≠ c) → letOf c = -1) := Lib.hid letOf_none
  obtain ⟨s, hs⟩ : ∃ s, lets = s := ⟨_, rfl⟩
  obtain ⟨v, hv⟩ : ∃ v, letOf c = v := ⟨_, rfl⟩
  have hsz := lets_size
  have HF2 : Hid (∀ (k : Nat) (h : k < s.size), s[k] = c → (∀ (j : Nat) (hj : j < k), s[j] ≠ c) → v = k) := Lib.hid (by subst hs hv; exact HF.out)
  have HN2 : Hid ((∀ (j : Nat) (hj : j < s.size), s[j] ≠ c) → v = -1) := Lib.hid (by subst hs hv; exact HN.out)
  rw [hv]
  rw [hs] at HL hsz
  clear hs hv HF HN
  have hc0 := u8_le c
  have HS : Hid (s.size = 48) := Lib.hid hsz
  have hs1 : s.size ≤ 48 := by omega
  clear hsz
  go_enter Try.func101, Try.ntmps101
  go_wp2_with fail
  refine HL.out.mono ?_
  rintro e w' ⟨rfl, rfl⟩
  go_wp2_with fail
  go_loop [4] (fun i => ∃ k : Nat, k ≤ s.size ∧ i = .int .i64 k ∧ Hid (∀ (j : Nat) (hj : j < s.size), j < k → s[j] ≠ c)) (fun i => s.size - (intOf i).toNat)
  case atStart => exact ⟨0, by omega, rfl, Lib.hid fun j _ h => by omega⟩
  case round =>
    obtain ⟨k, hk, rfl, HK⟩ := hrel
    by_cases hlt : k < s.size
    · have hck := u8_le s[k]
      by_cases he : s[k] = c
      · have he' : ((s[k].toNat : Int) == (c.toNat : Int)) = true := by simp [he]
        have HV := Lib.hid (HF2.out k hlt he fun j hj => HK.out j (by omega) hj)
        clear he
        go_wp2
        go_ret
        exact ⟨by rw [HV.out]; rfl, rfl⟩
      · have he' : ((s[k].toNat : Int) == (c.toNat : Int)) = false := u8_ne he
        have HK2 : Hid (∀ (j : Nat) (hj : j < s.size), j < k + 1 → s[j] ≠ c) := Lib.hid fun j hj h => by
          rcases Nat.lt_or_ge j k with h2 | h2
          · exact HK.out j hj h2
          · obtain rfl : j = k := by omega
            exact he
        clear he
        go_wp2
        go_round
        case rel => exact ⟨k + 1, by omega, by go_num, HK2⟩
        case measure => simp [intOf]; omega
    · have HV := Lib.hid (HN2.out fun j hj => HK.out j hj (by omega))
      go_wp2
      go_ret
      exact ⟨by rw [HV.out]; rfl, rfl⟩
end Go.Proofs.Ytcddkcejjajlhaa


namespace Go.Proofs.Ytcddkcejjajlhaa
open Go.RowKit

set_option maxHeartbeats 1000000 in
theorem spec_nameok (s : ByteArray) (hs : s.size ≤ 4611686018427387904) (w : World) : Calls Try.prog 98 #[.string s] w fun e w' => e = .returned (.bool (nameOk s)) ∧ w = w' := by
  have HI := Lib.hid (in_any (s.size : Int) 1 24 w)
  by_cases h : 1 ≤ s.size ∧ s.size ≤ 24
  · have hb := Lib.hid (inB_true (x := (s.size : Int)) (a := 1) (b := 24) (by omega) (by omega))
    obtain ⟨v, hv⟩ : ∃ v, nameOk s = v := ⟨_, rfl⟩
    have HY : Hid ((∀ (i : Nat) (h : i < s.size), nameByte s[i] = true) → v = true) := Lib.hid fun h2 => hv ▸ nameOk_yes h.1 h.2 h2
    have HN : Hid (∀ (i : Nat) (h : i < s.size), nameByte s[i] = false → v = false) := Lib.hid fun i hi h2 => hv ▸ nameOk_no hi h2
    rw [hv]
    have h24 := h.2
    clear h hv
    go_enter Try.func98, Try.ntmps98
    go_wp2_with fail
    refine HI.out.mono ?_
    rintro e w' ⟨he, rfl⟩
    rw [hb.out] at he
    subst he
    go_wp2_with fail
    go_loop [3] (fun i => ∃ k : Nat, k ≤ s.size ∧ i = .int .i64 k ∧ Hid (∀ (j : Nat) (hj : j < s.size), j < k → nameByte s[j] = true)) (fun i => s.size - (intOf i).toNat)
    case atStart => exact ⟨0, by omega, rfl, Lib.hid fun j _ h => by omega⟩
    case round =>
      obtain ⟨k, hk, rfl, HK⟩ := hrel
      by_cases hlt : k < s.size
      · have hck := u8_le s[k]
        have hr := letOf_range s[k]
        have HL : Hid (∀ W, Calls Try.prog 101 #[.int .u8 (s[k].toNat : Int)] W fun e w' => e = .returned (.int .i64 (letOf s[k])) ∧ W = w') := Lib.hid fun W => spec_letterof s[k] W
        have HQ : Hid (nameByte s[k] = decide (1 ≤ letOf s[k])) := Lib.hid rfl
        obtain ⟨x, hx⟩ : ∃ x, letOf s[k] = x := ⟨_, rfl⟩
        rw [hx] at hr HL HQ
        clear hx
        obtain ⟨hr0, hr1⟩ := hr
        by_cases he : x < 1
        · have HV := Lib.hid (HN.out k hlt (by rw [HQ.out]; simpa using he))
          go_wp2_with fail
          refine (HL.out _).mono ?_
          rintro e w' ⟨rfl, rfl⟩
          go_wp2_with fail
          go_ret
          exact ⟨by rw [HV.out]; rfl, rfl⟩
        · have HK2 : Hid (∀ (j : Nat) (hj : j < s.size), j < k + 1 → nameByte s[j] = true) := Lib.hid fun j hj h => by
            rcases Nat.lt_or_ge j k with h2 | h2
            · exact HK.out j hj h2
            · obtain rfl : j = k := by omega
              rw [HQ.out]
              simp; omega
          go_wp2_with fail
          refine (HL.out _).mono ?_
          rintro e w' ⟨rfl, rfl⟩
          go_wp2_with fail
          go_round
          case rel => exact ⟨k + 1, by omega, by go_num, HK2⟩
          case measure => simp [intOf]; omega
      · have HV := Lib.hid (HY.out fun j hj => HK.out j hj (by omega))
        go_wp2
        go_ret
        exact ⟨by rw [HV.out]; rfl, rfl⟩
  · rw [nameOk_size h]
    have hb := Lib.hid (inB_false (x := (s.size : Int)) (a := 1) (b := 24) (by omega))
    clear h
    go_enter Try.func98, Try.ntmps98
    go_wp2_with fail
    refine HI.out.mono ?_
    rintro e w' ⟨he, rfl⟩
    rw [hb.out] at he
    subst he
    go_wp2_with fail
    go_ret
    exact ⟨rfl, rfl⟩

end Go.Proofs.Ytcddkcejjajlhaa


namespace Go.Proofs.Ytcddkcejjajlhaa
open Go.RowKit

theorem spec_bitsof (k : Int) (w : World) : Calls Try.prog 103 #[.int .i64 k] w fun e w' => e = .returned (.int .u32 (bitsOf k)) ∧ w = w' := by
  have HW := Lib.hid (spec_widthof k w)
  have four : widthOf k = 0 ∨ widthOf k = 4 ∨ widthOf k = 5 ∨ widthOf k = 7 := by
    unfold widthOf
    split
    · exact .inl rfl
    · split
      · exact .inr (.inl rfl)
      · split
        · exact .inr (.inr (.inl rfl))
        · split
          · exact .inr (.inr (.inr rfl))
          · exact .inl rfl
  have both : (widthOf k = 0 → bitsOf k = 0) ∧ (widthOf k = 4 → 0 ≤ k ∧ k < 8 ∧ bitsOf k = k) ∧ (widthOf k = 5 → 8 ≤ k ∧ k < 16 ∧ bitsOf k = k + 8) ∧ (widthOf k = 7 → 16 ≤ k ∧ k < 48 ∧ bitsOf k = k + 80) := by
    unfold widthOf bitsOf
    split
    · simp
    · split
      · simp; omega
      · split
        · simp; omega
        · split
          · simp; omega
          · simp
  rcases four with h | h | h | h
  · rw [both.1 h]
    rw [h] at HW
    clear both h
    go_enter Try.func103, Try.ntmps103
    go_wp2_with fail
    refine HW.out.mono ?_
    rintro e w' ⟨rfl, rfl⟩
    go_wp2_with fail
    go_ret
    exact ⟨rfl, rfl⟩
  · obtain ⟨h5, h6, h7⟩ := both.2.1 h
    rw [h7]
    rw [h] at HW
    clear both h h7
    go_enter Try.func103, Try.ntmps103
    go_wp2_with fail
    refine HW.out.mono ?_
    rintro e w' ⟨rfl, rfl⟩
    go_wp2_with fail
    go_ret
    exact ⟨rfl, rfl⟩
  · obtain ⟨h5, h6, h7⟩ := both.2.2.1 h
    rw [h7]
    rw [h] at HW
    clear both h h7
    go_enter Try.func103, Try.ntmps103
    go_wp2_with fail
    refine HW.out.mono ?_
    rintro e w' ⟨rfl, rfl⟩
    go_wp2_with fail
    go_ret
    exact ⟨rfl, rfl⟩
  · obtain ⟨h5, h6, h7⟩ := both.2.2.2 h
    rw [h7]
    rw [h] at HW
    clear both h h7
    go_enter Try.func103, Try.ntmps103
    go_wp2_with fail
    refine HW.out.mono ?_
    rintro e w' ⟨rfl, rfl⟩
    go_wp2_with fail
    go_ret
    exact ⟨rfl, rfl⟩
end Go.Proofs.Ytcddkcejjajlhaa


namespace Go.Proofs.Ytcddkcejjajlhaa
open Go.RowKit Go

def wN (k : Nat) : Nat := (widthOf (k : Int)).toNat
def bN (k : Nat) : Nat := (bitsOf (k : Int)).toNat
theorem code_apart : ∀ k : Nat, k < 48 → bN k < 2 ^ wN k ∧ ((bN k : Nat) : Int) = bitsOf (k : Int) ∧ ∀ j : Nat, j < k → wN j ≤ wN k ∧ ((bN k / 2 ^ (wN k - wN j) : Nat) : Int) ≠ bitsOf (j : Int) := by decide +kernel
end Go.Proofs.Ytcddkcejjajlhaa


namespace Go.Proofs.Ytcddkcejjajlhaa
open Go.RowKit Go

def wB (c : UInt8) : Nat := (widthOf (letOf c)).toNat
def bB (c : UInt8) : Nat := (bitsOf (letOf c)).toNat
/-- The bits of as many first letters as fit in 'free' bits, from their highest on, and how many letters these are. -/
def fillN : Nat → List UInt8 → Nat × Nat
  | _, [] => (0, 0)
  | free, c :: r => if free < wB c then (0, 0) else (bB c * 2 ^ (free - wB c) + (fillN (free - wB c) r).1, (fillN (free - wB c) r).2 + 1)
theorem fillN_nil (free : Nat) : fillN free [] = (0, 0) := by simp [fillN]
theorem fillN_stop {free : Nat} {c : UInt8} {r : List UInt8} (h : free < wB c) : fillN free (c :: r) = (0, 0) := by simp [fillN, h]
theorem fillN_go {free : Nat} {c : UInt8} {r : List UInt8} (h : wB c ≤ free) : fillN free (c :: r) = (bB c * 2 ^ (free - wB c) + (fillN (free - wB c) r).1, (fillN (free - wB c) r).2 + 1) := by
  have h' : ¬ free < wB c := by omega
  simp [fillN, h']
theorem let_cases (c : UInt8) : letOf c = -1 ∨ ∃ k : Nat, k < 48 ∧ letOf c = (k : Int) := by
  have h := letOf_range c
  rcases Int.lt_or_le (letOf c) 0 with h0 | h0
  · exact Or.inl (by omega)
  · exact Or.inr ⟨(letOf c).toNat, by omega, by omega⟩
theorem wB_int (c : UInt8) : ((wB c : Nat) : Int) = widthOf (letOf c) := by
  unfold wB
  rcases let_cases c with h | ⟨k, hk, h⟩
  · rw [h]; rfl
  · rw [h]
    obtain ⟨d, hd, _, _⟩ := widthOf_nat hk
    rw [hd]; rfl
theorem wB_le (c : UInt8) : wB c ≤ 7 := by
  unfold wB
  rcases let_cases c with h | ⟨k, hk, h⟩
  · rw [h]; decide
  · rw [h]
    obtain ⟨d, hd, _, h2⟩ := widthOf_nat hk
    rw [hd]; exact h2
theorem bB_int (c : UInt8) : ((bB c : Nat) : Int) = bitsOf (letOf c) := by
  unfold bB
  rcases let_cases c with h | ⟨k, hk, h⟩
  · rw [h]; rfl
  · rw [h]; exact (code_apart k hk).2.1
theorem bB_lt (c : UInt8) : bB c < 2 ^ wB c := by
  unfold bB wB
  rcases let_cases c with h | ⟨k, hk, h⟩
  · rw [h]; decide
  · rw [h]; exact (code_apart k hk).1
theorem bB_le (c : UInt8) : bB c ≤ 127 := by
  have h1 := bB_lt c
  have h2 := wB_le c
  have h3 : 2 ^ wB c ≤ 2 ^ 7 := Nat.pow_le_pow_right (by decide) h2
  omega
theorem fillN_lt : ∀ (l : List UInt8) (free : Nat), (fillN free l).1 < 2 ^ free
  | [], free => by rw [fillN_nil]; exact Nat.two_pow_pos _
  | c :: r, free => by
    rcases Nat.lt_or_ge free (wB c) with h | h
    · rw [fillN_stop h]; exact Nat.two_pow_pos _
    · rw [fillN_go h]
      have h1 := fillN_lt r (free - wB c)
      have h2 := bB_lt c
      have e : (2 : Nat) ^ free = 2 ^ wB c * 2 ^ (free - wB c) := by rw [← Nat.pow_add, show wB c + (free - wB c) = free by omega]
      rw [e]
      calc bB c * 2 ^ (free - wB c) + (fillN (free - wB c) r).1 < bB c * 2 ^ (free - wB c) + 2 ^ (free - wB c) := by omega
        _ = (bB c + 1) * 2 ^ (free - wB c) := by rw [Nat.add_mul, Nat.one_mul]
        _ ≤ 2 ^ wB c * 2 ^ (free - wB c) := Nat.mul_le_mul_right _ h2
theorem fillN_len : ∀ (l : List UInt8) (free : Nat), (fillN free l).2 ≤ l.length
  | [], free => by rw [fillN_nil]; exact Nat.le_refl _
  | c :: r, free => by
    rcases Nat.lt_or_ge free (wB c) with h | h
    · rw [fillN_stop h]; exact Nat.zero_le _
    · rw [fillN_go h]
      exact Nat.succ_le_succ (fillN_len r (free - wB c))
theorem fillN_pos {l : List UInt8} (h : l ≠ []) : 1 ≤ (fillN 28 l).2 := by
  cases l with
  | nil => exact absurd rfl h
  | cons c r =>
    have := wB_le c
    rw [fillN_go (by omega)]
    exact Nat.succ_le_succ (Nat.zero_le _)
/-- The fields of a name's letters. -/
def packN : Nat → List UInt8 → List Nat
  | 0, _ => []
  | n + 1, l => if l = [] then [] else (fillN 28 l).1 :: packN n (l.drop (fillN 28 l).2)
theorem packN_nil (n : Nat) : packN n [] = [] := by cases n <;> simp [packN]
theorem packN_go {n : Nat} {l : List UInt8} (h : l ≠ []) : packN (n + 1) l = (fillN 28 l).1 :: packN n (l.drop (fillN 28 l).2) := by simp [packN, h]
theorem packN_fuel : ∀ (n m : Nat) (l : List UInt8), l.length ≤ n → l.length ≤ m → packN n l = packN m l
  | n, m, [], _, _ => by rw [packN_nil, packN_nil]
  | 0, m, c :: r, h, _ => by simp at h
  | n + 1, 0, c :: r, _, h => by simp at h
  | n + 1, m + 1, c :: r, h1, h2 => by
    have hp := fillN_pos (l := c :: r) (by simp)
    have hl : ((c :: r).drop (fillN 28 (c :: r)).2).length ≤ r.length := by rw [List.length_drop, List.length_cons]; omega
    rw [packN_go (by simp), packN_go (by simp), packN_fuel n m _ (by simp at h1; omega) (by simp at h2; omega)]
theorem packN_len : ∀ (n : Nat) (l : List UInt8), (packN n l).length ≤ l.length
  | n, [] => by rw [packN_nil]; exact Nat.le_refl _
  | 0, c :: r => Nat.zero_le _
  | n + 1, c :: r => by
    have hp := fillN_pos (l := c :: r) (by simp)
    have h := packN_len n ((c :: r).drop (fillN 28 (c :: r)).2)
    have hl : ((c :: r).drop (fillN 28 (c :: r)).2).length ≤ r.length := by rw [List.length_drop, List.length_cons]; omega
    rw [packN_go (by simp), List.length_cons, List.length_cons]
    omega
theorem packN_small : ∀ (n : Nat) (l : List UInt8), ∀ f ∈ packN n l, f < 2 ^ 28
  | 0, l => fun f h => absurd h List.not_mem_nil
  | n + 1, l => fun f h => by
    by_cases hl : l = []
    · rw [hl, packN_nil] at h; simp at h
    · rw [packN_go hl] at h
      rcases List.mem_cons.1 h with h | h
      · rw [h]; exact fillN_lt l 28
      · exact packN_small n _ f h
def packL (l : List UInt8) : List Nat := packN l.length l
theorem packL_go {l : List UInt8} (h : l ≠ []) : packL l = (fillN 28 l).1 :: packL (l.drop (fillN 28 l).2) := by
  have hp := fillN_pos h
  obtain ⟨m, hm⟩ : ∃ m, l.length = m + 1 := ⟨l.length - 1, by have := List.length_pos_iff.2 h; omega⟩
  unfold packL
  rw [hm, packN_go h, packN_fuel m _ _ (by rw [List.length_drop]; omega) (Nat.le_refl _)]
theorem packL_nil : packL [] = [] := rfl
theorem packL_len (l : List UInt8) : (packL l).length ≤ l.length := packN_len _ _
theorem packL_small (l : List UInt8) : ∀ f ∈ packL l, f < 2 ^ 28 := packN_small _ _

def nameL (l : List UInt8) : Bool := decide (1 ≤ l.length ∧ l.length ≤ 24 ∧ ∀ c ∈ l, nameByte c = true)
theorem nameOk_list (s : ByteArray) : nameOk s = nameL s.data.toList := by
  unfold nameOk nameL
  have e : s.data.toList.length = s.size := rfl
  rw [e]
  have : (∀ (i : Nat) (h : i < s.size), nameByte s[i] = true) ↔ ∀ c ∈ s.data.toList, nameByte c = true := by
    constructor
    · intro h c hc
      obtain ⟨i, hi, rfl⟩ := List.getElem_of_mem hc
      exact h i hi
    · intro h i hi
      have : s[i] ∈ s.data.toList := by
        have h2 : s.data.toList[i]'hi ∈ s.data.toList := List.getElem_mem _
        exact h2
      exact h _ this
  rw [Bool.eq_iff_iff]
  simp only [decide_eq_true_eq, this]
def packs (l : List UInt8) : List Nat := if nameL l = true then packL l else []
theorem packs_yes {l : List UInt8} (h : nameL l = true) : packs l = packL l := by unfold packs; rw [if_pos h]
theorem packs_no {l : List UInt8} (h : nameL l = false) : packs l = [] := by unfold packs; rw [if_neg (by rw [h]; decide)]
theorem packs_len (l : List UInt8) : (packs l).length ≤ l.length ∧ (packs l).length ≤ 24 := by
  cases h : nameL l with
  | false => rw [packs_no h]; exact ⟨Nat.zero_le _, by decide⟩
  | true =>
    rw [packs_yes h]
    have h1 := packL_len l
    have h2 := (of_decide_eq_true h).2.1
    exact ⟨h1, by omega⟩
theorem packs_small (l : List UInt8) : ∀ f ∈ packs l, f < 2 ^ 28 := by
  cases h : nameL l with
  | false => rw [packs_no h]; simp
  | true => rw [packs_yes h]; exact packL_small l
end Go.Proofs.Ytcddkcejjajlhaa


namespace Go.Proofs.Ytcddkcejjajlhaa
open Go.RowKit Go

/-- A list of bytes that can be read. -/
def RdB (w : World) (v : Value) (l : List UInt8) : Prop :=
  ∃ (A : Option Addr) (cap : Nat), v = .slice A l.length cap ∧ l.length ≤ cap ∧ l.length ≤ 4611686018427387904 ∧ ∀ i (h : i < l.length), ∃ a, A = some a ∧ a.block < w.heap.size ∧ w.cell? (a.add i) = some (.int .u8 (l[i].toNat : Int))
theorem RdB.below {w w' : World} {v : Value} {l : List UInt8} (h : RdB w v l) (hb : Below w.heap.size w w') : RdB w' v l := by
  obtain ⟨A, cap, rfl, hl, hc, h⟩ := h
  refine ⟨A, cap, rfl, hl, hc, fun i hi => ?_⟩
  obtain ⟨a, rfl, e2, e3⟩ := h i hi
  exact ⟨a, rfl, Nat.lt_of_lt_of_le e2 hb.size, (hb.cell (by rw [addr_addb]; exact e2)).trans e3⟩
theorem RdB.grown {w w' : World} {v : Value} {l : List UInt8} {row : Option Nat} (h : RdB w v l) (hg : w.grownBy w' row) (hr : ∀ A n c k, v = .slice (some A) n c → row = some k → A.block ≠ k) : RdB w' v l := by
  obtain ⟨A, cap, rfl, hl, hc, h⟩ := h
  refine ⟨A, cap, rfl, hl, hc, fun i hi => ?_⟩
  obtain ⟨a, rfl, e2, e3⟩ := h i hi
  refine ⟨a, rfl, Nat.lt_of_lt_of_le e2 hg.size, (World.cell?_of_block (hg.block _ (by rw [addr_addb]; exact e2) (fun e => ?_))).trans e3⟩
  rw [addr_addb] at e
  exact hr a _ _ _ rfl e.symm rfl
theorem addr_add2 (a : Addr) (m n : Nat) : (a.add m).add n = a.add (m + n) := by
  unfold Addr.add
  by_cases h1 : m = 0
  · subst h1; simp
  · by_cases h2 : n = 0
    · subst h2; simp
    · rw [if_neg h1, if_neg h2, if_neg (by omega)]; simp [Nat.add_assoc]
theorem RdB.drop {w : World} {A : Option Addr} {n cap : Nat} {l : List UInt8} (h : RdB w (.slice A n cap) l) (k : Nat) (hk : k ≤ l.length) : RdB w (.slice (if cap = k then A else A.map (·.add k)) (l.length - k) (cap - k)) (l.drop k) := by
  obtain ⟨A', cap', e, hl, hc, h⟩ := h
  injection e with e1 e2 e3
  subst e1 e2 e3
  refine ⟨_, _, by rw [List.length_drop], by rw [List.length_drop]; omega, by rw [List.length_drop]; omega, fun i hi => ?_⟩
  rw [List.length_drop] at hi
  obtain ⟨a, rfl, e2, e3⟩ := h (k + i) (by omega)
  rw [if_neg (by omega)]
  refine ⟨a.add k, rfl, by rw [addr_addb]; exact e2, ?_⟩
  rw [addr_add2, e3, List.getElem_drop]
/-- Where packing stands: n letters lie in F, 'free' bits are left. -/
structure Fill (l : List UInt8) (F free n : Nat) : Prop where
  le : free ≤ 28
  nle : n ≤ l.length
  eq : fillN 28 l = (F + (fillN free (l.drop n)).1, n + (fillN free (l.drop n)).2)
  mod : F % 2 ^ free = 0
theorem Fill.start (l : List UInt8) : Fill l 0 28 0 := ⟨Nat.le_refl _, Nat.zero_le _, by simp, rfl⟩
theorem Fill.lt {l : List UInt8} {F free n : Nat} (h : Fill l F free n) : F < 2 ^ 28 := by
  have h1 := fillN_lt l 28
  rw [h.eq] at h1
  exact Nat.lt_of_le_of_lt (Nat.le_add_right _ _) h1
theorem Fill.done {l : List UInt8} {F free n : Nat} (h : Fill l F free n) (hn : n = l.length) : fillN 28 l = (F, n) := by
  rw [h.eq, List.drop_eq_nil_of_le (by omega), fillN_nil]
  rfl
theorem Fill.full {l : List UInt8} {F free n : Nat} (h : Fill l F free n) (hn : n < l.length) (hw : free < wB l[n]) : fillN 28 l = (F, n) := by
  rw [h.eq, List.drop_eq_getElem_cons hn, fillN_stop hw]
  rfl
theorem Fill.more {l : List UInt8} {F free n : Nat} (h : Fill l F free n) (hn : n < l.length) (hw : wB l[n] ≤ free) : Fill l (F + bB l[n] * 2 ^ (free - wB l[n])) (free - wB l[n]) (n + 1) := by
  refine ⟨by have := h.le; omega, hn, ?_, ?_⟩
  · rw [h.eq, List.drop_eq_getElem_cons hn, fillN_go hw]
    exact Prod.ext (Nat.add_assoc _ _ _).symm (by show n + (_ + 1) = n + 1 + _; omega)
  · have hd : 2 ^ (free - wB l[n]) ∣ F := Nat.dvd_trans (Nat.pow_dvd_pow 2 (by omega)) (Nat.dvd_of_mod_eq_zero h.mod)
    exact Nat.mod_eq_zero_of_dvd (Nat.dvd_add hd (Nat.dvd_mul_left _ _))
theorem fit_lt {b w free : Nat} (hb : b < 2 ^ w) (hw : w ≤ free) : b * 2 ^ (free - w) < 2 ^ free := by
  have e : (2 : Nat) ^ free = 2 ^ w * 2 ^ (free - w) := by rw [← Nat.pow_add, show w + (free - w) = free by omega]
  rw [e]
  exact Nat.mul_lt_mul_of_pos_right hb (Nat.two_pow_pos _)
theorem shl_cast (b e : Nat) : (b : Int) * 2 ^ e = ((b * 2 ^ e : Nat) : Int) := by push_cast; rfl
theorem add_fit {l : List UInt8} {F free n : Nat} (h : Fill l F free n) (hn : n < l.length) (hw : wB l[n] ≤ free) : wrap64 ((F : Int) + wrap64 ((bB l[n] : Int) * 2 ^ (free - wB l[n]))) = ((F + bB l[n] * 2 ^ (free - wB l[n]) : Nat) : Int) := by
  have h1 := fit_lt (bB_lt l[n]) hw
  have h2 : 2 ^ free ≤ 2 ^ 28 := Nat.pow_le_pow_right (by decide) h.le
  have h3 := h.lt
  rw [shl_cast]
  unfold wrap64
  omega

set_option maxHeartbeats 1000000 in
theorem spec_l03one (s : ByteArray) (hs : s.size ≤ 4611686018427387904) (w : World) :
    Calls Try.prog 99 #[.string s] w fun e w' => e = .returned (.tuple #[.int .u32 ((fillN 28 s.data.toList).1 : Int), .int .i64 ((fillN 28 s.data.toList).2 : Int)]) ∧ w = w' := by
  obtain ⟨p, q, hpq⟩ : ∃ p q, fillN 28 s.data.toList = (p, q) := ⟨_, _, rfl⟩
  obtain ⟨l, hl⟩ : ∃ l, s.data.toList = l := ⟨_, rfl⟩
  have hln : l.length = s.size := by rw [← hl]; rfl
  have hat : ∀ n (h : n < l.length), l[n] = s[n]'(by omega) := fun n h => by subst hl; rfl
  rw [hl] at hpq
  rw [hl, hpq]
  have HD : Hid (∀ F free n, Fill l F free n → n = l.length → p = F ∧ q = n) := Lib.hid fun F free n h e => by
    rw [h.done e] at hpq; injection hpq with e1 e2; exact ⟨e1.symm, e2.symm⟩
  have HF : Hid (∀ F free n (h : Fill l F free n) (hn : n < l.length), free < wB l[n] → p = F ∧ q = n) := Lib.hid fun F free n h hn e => by
    rw [h.full hn e] at hpq; injection hpq with e1 e2; exact ⟨e1.symm, e2.symm⟩
  have HAT := Lib.hid hat
  clear hpq hl hat
  go_enter Try.func99, Try.ntmps99
  go_wp2
  go_loop [4, 5, 6] (fun vf vl vn => ∃ F free n : Nat, vf = .int .i64 F ∧ vl = .int .i64 free ∧ vn = .int .i64 n ∧ Hid (Fill l F free n)) (fun _ _ vn => l.length - (intOf vn).toNat)
  case atStart => exact ⟨0, 28, 0, rfl, rfl, rfl, Lib.hid (Fill.start l)⟩
  case round =>
    obtain ⟨F, free, n, rfl, rfl, rfl, HR⟩ := hrel
    have hn := HR.out.nle
    have h28 := HR.out.le
    have hlt := HR.out.lt
    by_cases hp : n < l.length
    · have hp' : n < s.size := by omega
      have hck := u8_le s[n]
      have hw := wB_le l[n]
      have HL : Hid (∀ W, Calls Try.prog 101 #[.int .u8 (s[n].toNat : Int)] W fun e w' => e = .returned (.int .i64 (letOf l[n])) ∧ W = w') := Lib.hid fun W => by rw [HAT.out n hp]; exact spec_letterof s[n] W
      have HW : Hid (∀ W, Calls Try.prog 102 #[.int .i64 (letOf l[n])] W fun e w' => e = .returned (.int .i64 (wB l[n] : Int)) ∧ W = w') := Lib.hid fun W => by rw [wB_int]; exact spec_widthof _ W
      have HB : Hid (∀ W, Calls Try.prog 103 #[.int .i64 (letOf l[n])] W fun e w' => e = .returned (.int .u32 (bB l[n] : Int)) ∧ W = w') := Lib.hid fun W => by rw [bB_int]; exact spec_bitsof _ W
      have hbl := bB_le l[n]
      have hFull := HF.out F free n HR.out hp
      have hMore := HR.out.more hp
      have hAdd := add_fit HR.out hp
      have HLr := letOf_range l[n]
      obtain ⟨z, hz⟩ : ∃ z, letOf l[n] = z := ⟨_, rfl⟩
      obtain ⟨d, hd⟩ : ∃ d, wB l[n] = d := ⟨_, rfl⟩
      obtain ⟨b, hb⟩ : ∃ b, bB l[n] = b := ⟨_, rfl⟩
      rw [hz] at HL HW HB HLr
      rw [hd] at HW hFull hMore hAdd hw
      rw [hb] at HB hMore hAdd hbl
      have HFULL := Lib.hid hFull
      have HMORE := Lib.hid hMore
      have HADD := Lib.hid hAdd
      clear hz hd hb hFull hMore hAdd
      by_cases hfit : d ≤ free
      · have hA := HADD.out hfit
        obtain ⟨F2, hF2⟩ : ∃ F2, F + b * 2 ^ (free - d) = F2 := ⟨_, rfl⟩
        have HM := HMORE.out hfit
        rw [hF2] at hA HM
        have HM := Lib.hid HM
        have hgt : decide ((free : Int) < (d : Int)) = false := by simp; omega
        have hnn : (0 : Int) ≤ (free : Int) - (d : Int) := by omega
        clear hF2
        go_wp2_with fail
        refine (HL.out _).mono ?_
        rintro e w' ⟨rfl, rfl⟩
        go_wp2_with fail
        refine (HW.out _).mono ?_
        rintro e w' ⟨rfl, rfl⟩
        go_wp2_with fail
        refine (HB.out _).mono ?_
        rintro e w' ⟨rfl, rfl⟩
        go_wp2_with fail
        go_round
        case rel => exact ⟨F2, free - d, n + 1, by go_num, by go_num, by go_num, HM⟩
        case measure => simp [intOf]; omega
      · have hgt : free < d := by omega
        have HQ := Lib.hid (HFULL.out (by omega))
        clear hfit
        go_wp2_with fail
        refine (HL.out _).mono ?_
        rintro e w' ⟨rfl, rfl⟩
        go_wp2_with fail
        refine (HW.out _).mono ?_
        rintro e w' ⟨rfl, rfl⟩
        go_wp2_with fail
        obtain ⟨rfl, rfl⟩ := HQ.out
        go_ret2
        exact ⟨rfl, rfl⟩
    · have HQ := Lib.hid (HD.out F free n HR.out (by omega))
      go_wp2_with fail
      obtain ⟨rfl, rfl⟩ := HQ.out
      go_ret2
      exact ⟨rfl, rfl⟩
end Go.Proofs.Ytcddkcejjajlhaa


namespace Go.Proofs.Ytcddkcejjajlhaa
open Go.RowKit Go

theorem own_base {w : World} {b b' : Nat} {e : TypeId} {size : Nat} {v : Value} {n : Nat} {xs : List Value} (h : w.ownsRow b e size v n xs) (hb : b' ≤ b) : w.ownsRow b' e size v n xs := by
  refine ⟨h.1, ?_⟩
  rcases h.2 with h2 | ⟨g, cap, cur, hv, hg, r⟩
  · exact .inl h2
  · exact .inr ⟨g, cap, cur, hv, by omega, r⟩
theorem rest_list (t : ByteArray) (q : Nat) : (t.extract q t.size).data.toList = t.data.toList.drop q := by
  have h : (t.extract q t.size).data = t.data.extract q t.size := ByteArray.data_extract
  rw [h, Array.toList_extract]
  show ((t.data.toList.drop q).take (t.size - q)) = _
  rw [List.take_of_length_le]
  rw [List.length_drop]
  exact Nat.le_refl _
theorem rest_size (t : ByteArray) (q : Nat) : (t.extract q t.size).size = t.size - q := by
  show (t.extract q t.size).data.toList.length = _
  rw [rest_list, List.length_drop]
  rfl
theorem str_empty {t : ByteArray} (h : t.size = 0) : t.data.toList = [] := List.eq_nil_of_length_eq_zero h
theorem str_some {t : ByteArray} (h : t.size ≠ 0) : t.data.toList ≠ [] := fun e => h (by show t.data.toList.length = 0; rw [e]; rfl)
/-- Where packing a name stands: 'pre' is packed, 'r' is left. -/
structure PackAt (l : List UInt8) (pre : List Nat) (r : List UInt8) : Prop where
  eq : packL l = pre ++ packL r
  len : pre.length + r.length ≤ l.length
theorem PackAt.start (l : List UInt8) : PackAt l [] l := ⟨rfl, by simp⟩
theorem PackAt.done {l : List UInt8} {pre : List Nat} {r : List UInt8} (h : PackAt l pre r) (hr : r = []) : packL l = pre := by
  rw [h.eq, hr, packL_nil, List.append_nil]
theorem PackAt.more {l : List UInt8} {pre : List Nat} {r : List UInt8} (h : PackAt l pre r) (hr : r ≠ []) : PackAt l (pre ++ [(fillN 28 r).1]) (r.drop (fillN 28 r).2) := by
  have hp := fillN_pos hr
  have hl := fillN_len r 28
  refine ⟨?_, ?_⟩
  · rw [h.eq, packL_go hr, List.append_assoc]
    rfl
  · have := h.len
    rw [List.length_append, List.length_drop]
    simp
    omega

set_option maxHeartbeats 2000000 in
theorem spec_pack (s : ByteArray) (hs : s.size ≤ 4611686018427387904) (w : World) : Calls Try.prog 94 #[.string s] w (NewN w (packs s.data.toList)) := by
  obtain ⟨i0, hi, hz0, hz1, hz2⟩ := info_parts infoU32
  have HN : ∀ W, Hid (Calls Try.prog 98 #[.string s] W fun e w' => e = .returned (.bool (nameL s.data.toList)) ∧ W = w') := fun W => Lib.hid (by rw [← nameOk_list]; exact spec_nameok s hs W)
  cases hn : nameL s.data.toList with
  | false =>
    rw [hn] at HN
    rw [packs_no hn]
    clear hn
    go_enter Try.func94, Try.ntmps94
    go_wp2_with fail
    refine (HN _).out.mono ?_
    rintro e w' ⟨rfl, rfl⟩
    go_wp2_with fail
    go_ret
    exact ⟨_, rfl, own_empty _ _, (Below.refl _ _).alloc (Nat.le_refl _) _⟩
  | true =>
    rw [hn] at HN
    rw [packs_yes hn]
    obtain ⟨l, hl⟩ : ∃ l, s.data.toList = l := ⟨_, rfl⟩
    have h24 : l.length ≤ 24 := by rw [← hl]; exact (of_decide_eq_true hn).2.1
    have HS0 : Hid (PackAt l [] s.data.toList) := Lib.hid (by rw [hl]; exact PackAt.start l)
    rw [hl]
    clear hn hl
    go_enter Try.func94, Try.ntmps94
    go_wp2_with fail
    refine (HN _).out.mono ?_
    rintro e w' ⟨rfl, rfl⟩
    go_wp2_with fail
    go_loopw [0, 3] (fun vs vo wr => ∃ (t : ByteArray) (pre : List Nat), vs = .string t ∧ Hid (PackAt l pre t.data.toList) ∧ wr.ownsRow w.heap.size 43 1 vo pre.length (pre.map u32v) ∧ Below w.heap.size w wr) (fun vs _ _ => match vs with | .string t => t.size | _ => 0)
    case atStart => exact ⟨s, [], rfl, HS0, own_empty _ _, (Below.refl _ _).alloc (Nat.le_refl _) _⟩
    case round =>
      obtain ⟨t, pre, rfl, HA, hown, hB⟩ := hrel
      have hlen : pre.length + t.size ≤ 24 := Nat.le_trans HA.out.len h24
      by_cases hp : t.size = 0
      · have he := str_empty hp
        have e1 : t.toList.isEmpty = true := by rw [ByteArray.toList_eq, he]; rfl
        have HQ := Lib.hid (HA.out.done he)
        have HO := Lib.hid (show wr.ownsRow w.heap.size 43 1 _ pre.length (pre.map u32v) ∧ Below w.heap.size w wr from ⟨hown, hB⟩)
        clear he hp hown hB
        go_wp2_with fail
        go_ret
        rw [HQ.out]
        exact ⟨_, rfl, HO.out.1, HO.out.2⟩
      · have he := str_some hp
        have e1 : t.toList.isEmpty = false := by rw [ByteArray.toList_eq]; simpa using fun e => he (by rw [e])
        have HM := HA.out.more he
        have hq := fillN_len t.data.toList 28
        have hq1 := fillN_pos he
        have hqs : t.data.toList.length = t.size := rfl
        rw [hqs] at hq
        have HF := spec_l03one t (by omega) wr
        obtain ⟨p, q, hpq⟩ : ∃ p q, fillN 28 t.data.toList = (p, q) := ⟨_, _, rfl⟩
        rw [hpq] at HM hq hq1 HF
        have HF := Lib.hid HF
        rw [← rest_list] at HM
        have hrs := rest_size t q
        obtain ⟨t2, ht2⟩ : ∃ t2, t.extract q t.size = t2 := ⟨_, rfl⟩
        have HT2 := Lib.hid ht2
        rw [ht2] at HM hrs
        have HM := Lib.hid HM
        have i1 : (q : Int) ≤ (t.size : Int) := by simp at hq; omega
        clear he hpq ht2
        go_wp2_with fail
        refine HF.out.mono ?_
        rintro e w' ⟨rfl, rfl⟩
        go_wp2_with (at_builtin; refine wpList_append_own _ rfl _ _ 24 rfl w.heap.size 43 i0 (.int .u32 0) 1 4 Try.underlying24 hi hz0 hz1 hz2 rfl (by decide) _ _ _ rfl (hown.alloc _) ⟨wr.heap.size, 0, none⟩ 1 1 [.int .u32 (p : Int)] rfl rfl (cell_one_new _ _ _) (by simp [Value.oneCell']) (by unfold maxLen; omega) (by omega) (by have := hB.size; simp; omega) ?_; intro v' w1 hown' hgrow _)
        go_roundw
        case rel => exact ⟨t2, pre ++ [p], by rw [← HT2.out], HM, by simpa [u32v] using hown', (hB.alloc (by have := hB.size; omega) _).grown hgrow (by have := hB.size; simp; omega) (own_lt hown)⟩
        case measure => show (t.extract q t.size).size < t.size; rw [HT2.out, hrs]; omega
end Go.Proofs.Ytcddkcejjajlhaa


namespace Go.Proofs.Ytcddkcejjajlhaa
open Go.RowKit Go

theorem lt_of_cell_tab {w : World} {a : Addr} {v : Value} (h : w.cell? a = some v) : a.block < w.heap.size := by
  rcases Nat.lt_or_ge a.block w.heap.size with hl | hl
  · exact hl
  · have e : w.heap[a.block]? = none := Array.getElem?_eq_none hl
    simp [World.cell?, e] at h
/-- The tables hold numbers of their kinds. -/
def TabsAny (w : World) : Prop :=
  (∀ i, i < 10 → ∃ x : Nat, x < 4294967296 ∧ w.cell? ⟨0, i, none⟩ = some (.int .u32 x)) ∧
  ∀ i, i < 48 → ∃ x : Nat, x < 256 ∧ w.cell? ⟨1, i, none⟩ = some (.int .u8 x)
theorem TabsAny.below {w w' : World} (h : TabsAny w) (hb : Below w.heap.size w w') : TabsAny w' :=
  ⟨fun i hi => by obtain ⟨x, hx, hc⟩ := h.1 i hi; exact ⟨x, hx, (hb.cell (lt_of_cell_tab hc)).trans hc⟩,
   fun i hi => by obtain ⟨x, hx, hc⟩ := h.2 i hi; exact ⟨x, hx, (hb.cell (lt_of_cell_tab hc)).trans hc⟩⟩
end Go.Proofs.Ytcddkcejjajlhaa


namespace Go.Proofs.Ytcddkcejjajlhaa
open Go.RowKit Go

theorem snoc_len {zs pre : List Nat} {y p : Nat} (h : zs.length = pre.length ∧ ∀ z ∈ zs, z < 4294967296) (hy : y < 4294967296) : (zs ++ [y]).length = (pre ++ [p]).length ∧ ∀ z ∈ zs ++ [y], z < 4294967296 := by
  refine ⟨?_, fun z hz => ?_⟩
  · rw [List.length_append, List.length_append, h.1]; rfl
  · rcases List.mem_append.1 hz with hz | hz
    · exact h.2 z hz
    · rw [List.mem_singleton.1 hz]; exact hy
/-- A new list of so many numbers. -/
def NewLen (w : World) (n : Nat) (e : Ending) (w' : World) : Prop := ∃ (v : Value) (zs : List Nat), e = .returned v ∧ zs.length = n ∧ (∀ z ∈ zs, z < 4294967296) ∧ w'.ownsRow w.heap.size 43 1 v zs.length (zs.map u32v) ∧ Below w.heap.size w w'
theorem NewLen.of_new {w : World} {xs : List Nat} (hx : ∀ z ∈ xs, z < 4294967296) {e : Ending} {w' : World} (h : NewN w xs e w') : NewLen w xs.length e w' := by
  obtain ⟨v, e1, e2, e3⟩ := h
  exact ⟨v, xs, e1, rfl, hx, e2, e3⟩

end Go.Proofs.Ytcddkcejjajlhaa


namespace Go.Proofs.Ytcddkcejjajlhaa
open Go

structure It where
  kind : Int
  name : ByteArray
  n : Int
  hex : Bool
  raw : Nat
  deriving DecidableEq
def noText : ByteArray := ⟨#[]⟩
/-- The 32 bits of a number with a sign. -/
def lowN (n : Int) : Nat := (n % 4294967296).toNat
def tagW (k : Int) : Nat := if k = 1 then 1 else if k = 2 then 3 else if k = 3 then 4 else if k = 4 then 9 else if k = 5 then 10 else if k = 6 then 11 else 0
def wordCells (tag : Nat) : List Nat → List Nat
  | [] => []
  | f :: r => (f * 16 + tag) :: r.map (· * 16)
def wideN (n : Int) : Bool := decide (n < -67108864 ∨ 67108863 < n)
def hexN (h : Bool) : Nat := if h = true then 16 else 0
def numCells (n : Int) (h : Bool) (short long : Nat) : List Nat := if wideN n = true then [hexN h + long, lowN n] else [lowN n % 134217728 * 32 + hexN h + short]
def shortOf (k : Int) : Nat := if k = 7 then 8 else 6
def longOf (k : Int) : Nat := if k = 7 then 2 else 5
def varCells : List Nat → Int → List Nat
  | [f], n => [f * 16 + 12, lowN n]
  | _, _ => []
/-- The cells of an item. -/
def cellsOf (it : It) : List Nat :=
  if it.kind = 0 then (if it.name = noText ∧ it.n = 0 ∧ it.hex = false then [it.raw] else [])
  else if it.kind = 7 ∨ it.kind = 8 then (if it.name = noText ∧ it.raw = 0 then numCells it.n it.hex (shortOf it.kind) (longOf it.kind) else [])
  else if it.kind = 9 then (if it.hex = false ∧ it.raw = 0 then varCells (packs it.name.data.toList) it.n else [])
  else if 1 ≤ it.kind ∧ it.kind ≤ 6 then (if it.n = 0 ∧ it.hex = false ∧ it.raw = 0 then wordCells (tagW it.kind) (packs it.name.data.toList) else [])
  else []
/-- An item as memory can hold it. -/
structure ItIn (it : It) : Prop where
  k1 : -9223372036854775808 ≤ it.kind
  k2 : it.kind ≤ 9223372036854775807
  n1 : -2147483648 ≤ it.n
  n2 : it.n ≤ 2147483647
  r : it.raw < 4294967296
  s : it.name.size ≤ 4611686018427387904

theorem wordCells_len (t : Nat) (l : List Nat) : (wordCells t l).length = l.length := by cases l <;> simp [wordCells]
end Go.Proofs.Ytcddkcejjajlhaa


namespace Go.Proofs.Ytcddkcejjajlhaa
open Go

def wordK (k : Int) : Bool := decide (1 ≤ k ∧ k ≤ 6)
theorem cells_words {it : It} (h : 1 ≤ it.kind ∧ it.kind ≤ 6) : cellsOf it = if it.n = 0 ∧ it.hex = false ∧ it.raw = 0 then wordCells (tagW it.kind) (packs it.name.data.toList) else [] := by
  unfold cellsOf
  rw [if_neg (by omega), if_neg (by omega), if_neg (by omega), if_pos h]
theorem cells_nums {it : It} (h : it.kind = 7 ∨ it.kind = 8) : cellsOf it = if it.name = noText ∧ it.raw = 0 then numCells it.n it.hex (shortOf it.kind) (longOf it.kind) else [] := by
  unfold cellsOf
  rw [if_neg (by omega), if_pos h]
end Go.Proofs.Ytcddkcejjajlhaa


namespace Go.Proofs.Ytcddkcejjajlhaa
open Go.RowKit Go

abbrev itA (k : Int) (nm : ByteArray) (n : Int) (hx : Bool) (r : Int) : Value := .agg #[.int .i64 k, .string nm, .int .i32 n, .bool hx, .int .u32 r]

end Go.Proofs.Ytcddkcejjajlhaa


namespace Go.Proofs.Ytcddkcejjajlhaa
open Go.RowKit Go

theorem new_cells {w w2 : World} {g : Nat} {zs : List Nat} (hg : g = w2.heap.size) (hz : ∀ z ∈ zs, z < 4294967296) (hl : zs.length ≤ 2) (hB : Below w.heap.size w w2) :
    NewLen w zs.length (.returned (.slice (some ⟨g, 0, none⟩) zs.length zs.length)) (w2.alloc (.cells (zs.map u32v).toArray 43)) := by
  subst hg
  exact ⟨_, zs, rfl, rfl, hz, ⟨by simp, .inr ⟨w2.heap.size, zs.length, _, rfl, hB.size, heap_alloc_new _ _, Nat.le_refl _, by unfold maxLen; omega, by simp, by simp; exact List.take_of_length_le (by simp)⟩⟩, hB.alloc hB.size _⟩
theorem new_emp {w w2 : World} {g : Nat} (hg : g = w2.heap.size) (hB : Below w.heap.size w w2) : NewLen w 0 (.returned (.slice (some ⟨g, 0, none⟩) 0 0)) (w2.alloc (.cells #[] 43)) :=
  new_cells (zs := []) hg (fun _ hz => absurd hz List.not_mem_nil) (Nat.zero_le 2) hB
theorem new_one {w w2 : World} {g : Nat} {y : Int} (hg : g = w2.heap.size) (hy : ∃ m : Nat, y = (m : Int) ∧ m < 4294967296) (hB : Below w.heap.size w w2) :
    NewLen w 1 (.returned (.slice (some ⟨g, 0, none⟩) 1 1)) (w2.alloc (.cells #[.int .u32 y] 43)) := by
  obtain ⟨m, rfl, hm⟩ := hy
  exact new_cells (zs := [m]) hg (fun z hz => by rw [List.mem_singleton.1 hz]; exact hm) (Nat.le_succ 1) hB
theorem new_two {w w2 : World} {g : Nat} {y z : Int} (hg : g = w2.heap.size) (hy : ∃ m : Nat, y = (m : Int) ∧ m < 4294967296) (hz : ∃ m : Nat, z = (m : Int) ∧ m < 4294967296) (hB : Below w.heap.size w w2) :
    NewLen w 2 (.returned (.slice (some ⟨g, 0, none⟩) 2 2)) (w2.alloc (.cells #[.int .u32 y, .int .u32 z] 43)) := by
  obtain ⟨m, rfl, hm⟩ := hy
  obtain ⟨n, rfl, hn⟩ := hz
  exact new_cells (zs := [m, n]) hg (fun z hz => by
    rcases List.mem_cons.1 hz with h | h
    · rw [h]; exact hm
    · rw [List.mem_singleton.1 h]; exact hn) (Nat.le_refl 2) hB
theorem u32_some (x : Int) : ∃ n : Nat, IntKind.u32.wrap x = (n : Int) ∧ n < 4294967296 := ⟨(x % 4294967296).toNat, by rw [IntKind.wrap_u32]; omega, by omega⟩
theorem u32_mod (x : Int) : ∃ n : Nat, x % 4294967296 = (n : Int) ∧ n < 4294967296 := ⟨(x % 4294967296).toNat, by omega, by omega⟩

end Go.Proofs.Ytcddkcejjajlhaa


namespace Go.Proofs.Ytcddkcejjajlhaa
open Go.RowKit Go

theorem own_slice {w : World} {base : Nat} {e : TypeId} {size : Nat} {v : Value} {n : Nat} {xs : List Value} (h : w.ownsRow base e size v n xs) : ∃ A cap, v = .slice A n cap := by
  rcases h.2 with ⟨rfl, rfl⟩ | ⟨g, cap, cur, rfl, _⟩
  · exact ⟨_, _, rfl⟩
  · exact ⟨_, _, rfl⟩
end Go.Proofs.Ytcddkcejjajlhaa


namespace Go.Proofs.Ytcddkcejjajlhaa
open Go.RowKit Go

theorem map_setU (zs : List Nat) (i x : Nat) : (zs.map u32v).set i (u32v x) = (zs.set i x).map u32v := List.map_set.symm
theorem small_set {zs : List Nat} (h : ∀ z ∈ zs, z < 4294967296) (i : Nat) {x : Nat} (hx : x < 4294967296) : ∀ z ∈ zs.set i x, z < 4294967296 := by
  intro z hz
  rcases List.mem_or_eq_of_mem_set hz with h1 | h1
  · exact h z h1
  · rw [h1]; exact hx

end Go.Proofs.Ytcddkcejjajlhaa


namespace Go.Proofs.Ytcddkcejjajlhaa
open Go.RowKit Go

/-- The value of an item. -/
abbrev itVal (a : It) : Value := itA a.kind a.name a.n a.hex (a.raw : Int)
end Go.Proofs.Ytcddkcejjajlhaa


namespace Go.Proofs.Ytcddkcejjajlhaa
open Go.RowKit Go

theorem it_box {w w' : World} {k n r : Int} {nm : ByteArray} {x : Bool} {t : TypeId} (hB : Below (w.heap.size + 1) (w.alloc (.cells #[.int .i64 k, .string nm, .int .i32 n, .bool x, .int .u32 r] t)) w') :
    w'.cell? ⟨w.heap.size, 0, none⟩ = some (.int .i64 k) ∧ w'.cell? ⟨w.heap.size, 1, none⟩ = some (.string nm) ∧ w'.cell? ⟨w.heap.size, 2, none⟩ = some (.int .i32 n) ∧ w'.cell? ⟨w.heap.size, 3, none⟩ = some (.bool x) ∧ w'.cell? ⟨w.heap.size, 4, none⟩ = some (.int .u32 r) := by
  have h := (Blk.new w t #[.int .i64 k, .string nm, .int .i32 n, .bool x, .int .u32 r]).below hB (by omega)
  exact ⟨h.cell 0, h.cell 1, h.cell 2, h.cell 3, h.cell 4⟩
end Go.Proofs.Ytcddkcejjajlhaa


namespace Go.Proofs.Ytcddkcejjajlhaa
open Go.RowKit Go

theorem varCells_count (l : List Nat) (n : Int) : (varCells l n).length = if l.length = 1 then 2 else 0 := by
  match l with
  | [] => rfl
  | [f] => rfl
  | _ :: _ :: _ => simp [varCells]
end Go.Proofs.Ytcddkcejjajlhaa


namespace Go.Proofs.Ytcddkcejjajlhaa
open Go.RowKit Go

theorem spec_pack_len (s : ByteArray) (hs : s.size ≤ 4611686018427387904) (w : World) : Calls Try.prog 94 #[.string s] w (NewLen w (packs s.data.toList).length) :=
  (spec_pack s hs w).mono fun _ _ h => NewLen.of_new (fun z hz => Nat.lt_trans (packs_small _ z hz) (by decide)) h

set_option maxHeartbeats 2000000 in
theorem spec_word (t : Nat) (nm : ByteArray) (hs : nm.size ≤ 4611686018427387904) (w : World) :
    Calls Try.prog 88 #[.int .u32 t, .string nm] w (NewLen w (packs nm.data.toList).length) := by
  have HP := Lib.hid (spec_pack_len nm hs w)
  have hm24 := (packs_len nm.data.toList).2
  obtain ⟨m, hm⟩ : ∃ m, (packs nm.data.toList).length = m := ⟨_, rfl⟩
  rw [hm] at HP hm24 ⊢
  clear hm hs
  go_enter Try.func88, Try.ntmps88
  go_wp2_with fail
  refine HP.out.mono ?_
  rintro e w2 ⟨v, zs, rfl, hl, hz, hown, hb2⟩
  have HB2 := Lib.hid hb2
  have HO := Lib.hid hown
  have HZ := Lib.hid hz
  subst hl
  rcases hown.2 with ⟨rfl, h0⟩ | ⟨g, cap, cur, rfl, -⟩
  · obtain rfl : zs = [] := List.eq_nil_of_length_eq_zero h0
    clear hb2 hown hz HP h0
    go_wp2_with fail
    go_loopw [6] (fun vi wr => vi = .int .i64 0 ∧ wr = w2) (fun _ _ => 0)
    case atStart => exact ⟨rfl, rfl⟩
    case round =>
      obtain ⟨rfl, rfl⟩ := hrel
      go_wp2_with fail
      go_ret
      exact ⟨_, [], rfl, rfl, fun _ hz => absurd hz List.not_mem_nil, World.ownsRow_nil _ _ _ _, HB2.out⟩
  · clear hb2 hown hz HP
    go_wp2_with fail
    go_loopw [6] (fun vi wr => ∃ (i : Nat) (ys : List Nat), vi = .int .i64 i ∧ i ≤ zs.length ∧ Hid (ys.length = zs.length ∧ ∀ z ∈ ys, z < 4294967296) ∧ wr.ownsRow w.heap.size 43 1 (.slice (some ⟨g, 0, none⟩) zs.length cap) zs.length (ys.map u32v) ∧ Below w.heap.size w wr) (fun vi _ => zs.length - (intOf vi).toNat)
    case atStart => exact ⟨0, zs, rfl, by omega, Lib.hid ⟨rfl, HZ.out⟩, HO.out, HB2.out⟩
    case round =>
      obtain ⟨i, ys, rfl, hi, HY, hO, hB⟩ := hrel
      by_cases hp : i < zs.length
      · have hpy : i < ys.length := by rw [HY.out.1]; exact hp
        have hzi := HY.out.2 _ (List.getElem_mem hpy)
        have hd : wr.cell? ⟨g, i, none⟩ = some (u32v ys[i]) := by
          rw [hO.cellAt i (by omega)]
          simp [hpy]
        obtain ⟨z, hzz⟩ : ∃ z, ys[i] = z := ⟨_, rfl⟩
        rw [hzz] at hd hzi
        change wr.cell? ⟨g, i, none⟩ = some (.int .u32 (z : Int)) at hd
        obtain ⟨y, hy, hyl⟩ := u32_mod ((z : Int) * 16)
        have HYL := Lib.hid hyl
        have hs := hO.stored i (.int .u32 (y : Int))
        have hf := hO.frozenAt i
        have i2 : (i : Int) < (zs.length : Int) := by omega
        have HGB := Lib.hid (own_lt hO g rfl)
        have hO1 := hs.1
        rw [show Value.int .u32 (y : Int) = u32v y from rfl, map_setU] at hO1
        have HB := Lib.hid (hB.grown hs.2 hB.size (fun k hk => by obtain rfl := Option.some.inj hk; exact HGB.out))
        have HO1 := Lib.hid hO1
        by_cases h0 : i = 0
        · subst h0
          have hd2 : (wr.setCell ⟨g, 0, none⟩ (.int .u32 (y : Int))).cell? ⟨g, 0, none⟩ = some (.int .u32 (y : Int)) := World.cell?_setCell_same _ _ _ hd
          have hf2 := hO1.frozenAt 0
          obtain ⟨y2, hy2, hyl2⟩ := u32_mod ((y : Int) + (t : Int))
          have hs2 := hO1.stored 0 (.int .u32 (y2 : Int))
          have hO2 := hs2.1
          rw [show Value.int .u32 (y2 : Int) = u32v y2 from rfl, map_setU] at hO2
          have HO2 := Lib.hid hO2
          have HB3 := Lib.hid (HB.out.grown hs2.2 HB.out.size (fun k hk => by obtain rfl := Option.some.inj hk; exact HGB.out))
          have HY2 := Lib.hid hyl2
          clear hO hB hzz hpy HO HB2 HZ hs hs2 hO1 hO2 hyl hyl2
          go_wp2_with fail
          go_roundw
          case rel => exact ⟨1, (ys.set 0 y).set 0 y2, rfl, by omega, Lib.hid ⟨by rw [List.length_set, List.length_set]; exact HY.out.1, small_set (small_set HY.out.2 0 HYL.out) 0 HY2.out⟩, HO2.out, HB3.out⟩
          case measure => simp [intOf]; omega
        · have hne : ((i : Int) == 0) = false := by simp; omega
          clear hO hB hzz hpy HO HB2 HZ hs hO1 hyl h0
          go_wp2_with fail
          go_roundw
          case rel => exact ⟨i + 1, ys.set i y, by go_num, by omega, Lib.hid ⟨by rw [List.length_set]; exact HY.out.1, small_set HY.out.2 i HYL.out⟩, HO1.out, HB.out⟩
          case measure => simp [intOf]; omega
      · obtain rfl : i = zs.length := by omega
        go_wp2_with fail
        go_ret
        exact ⟨_, ys, rfl, HY.out.1, HY.out.2, by rw [HY.out.1]; exact hO, hB⟩
end Go.Proofs.Ytcddkcejjajlhaa


namespace Go.Proofs.Ytcddkcejjajlhaa
open Go.RowKit Go

set_option maxHeartbeats 1000000 in
theorem spec_narrow (n : Int) (x : Bool) (s l : Nat) (h1 : -67108864 ≤ n) (h2 : n ≤ 67108863) (w : World) : Calls Try.prog 87 #[.int .i32 n, .bool x, .int .u32 s, .int .u32 l] w (NewLen w 1) := by
  cases x with
  | true =>
    go_enter Try.func87, Try.ntmps87
    go_wp2_with fail
    go_ret
    exact new_one rfl (u32_mod _) (Below.refl _ _)
  | false =>
    go_enter Try.func87, Try.ntmps87
    go_wp2_with fail
    go_ret
    exact new_one rfl (u32_mod _) (Below.refl _ _)
set_option maxHeartbeats 1000000 in
theorem spec_wide (n : Int) (x : Bool) (s l : Nat) (h : n < -67108864 ∨ 67108863 < n) (w : World) : Calls Try.prog 87 #[.int .i32 n, .bool x, .int .u32 s, .int .u32 l] w (NewLen w 2) := by
  rcases h with h | h
  · cases x with
    | true =>
      go_enter Try.func87, Try.ntmps87
      go_wp2_with fail
      go_ret
      exact new_two rfl (u32_mod _) (u32_some _) (Below.refl _ _)
    | false =>
      go_enter Try.func87, Try.ntmps87
      go_wp2_with fail
      go_ret
      exact new_two rfl (u32_mod _) (u32_some _) (Below.refl _ _)
  · have h' : -67108864 ≤ n := by omega
    cases x with
    | true =>
      go_enter Try.func87, Try.ntmps87
      go_wp2_with fail
      go_ret
      exact new_two rfl (u32_mod _) (u32_some _) (Below.refl _ _)
    | false =>
      go_enter Try.func87, Try.ntmps87
      go_wp2_with fail
      go_ret
      exact new_two rfl (u32_mod _) (u32_some _) (Below.refl _ _)
set_option maxHeartbeats 1000000 in
theorem spec_tag (k : Int) (w : World) : Calls Try.prog 89 #[.int .i64 k] w fun e w' => e = .returned (.int .u32 (tagW k : Int)) ∧ w = w' := by
  by_cases h1 : k = 1
  · subst h1
    go_enter Try.func89, Try.ntmps89
    go_wp2_with fail
    go_ret
    exact ⟨rfl, rfl⟩
  by_cases h2 : k = 2
  · subst h2
    go_enter Try.func89, Try.ntmps89
    go_wp2_with fail
    go_ret
    exact ⟨rfl, rfl⟩
  by_cases h3 : k = 3
  · subst h3
    go_enter Try.func89, Try.ntmps89
    go_wp2_with fail
    go_ret
    exact ⟨rfl, rfl⟩
  by_cases h4 : k = 4
  · subst h4
    go_enter Try.func89, Try.ntmps89
    go_wp2_with fail
    go_ret
    exact ⟨rfl, rfl⟩
  by_cases h5 : k = 5
  · subst h5
    go_enter Try.func89, Try.ntmps89
    go_wp2_with fail
    go_ret
    exact ⟨rfl, rfl⟩
  by_cases h6 : k = 6
  · subst h6
    go_enter Try.func89, Try.ntmps89
    go_wp2_with fail
    go_ret
    exact ⟨rfl, rfl⟩
  have e : tagW k = 0 := by unfold tagW; rw [if_neg h1, if_neg h2, if_neg h3, if_neg h4, if_neg h5, if_neg h6]
  have b1 : (k == 1) = false := by simpa using h1
  have b2 : (k == 2) = false := by simpa using h2
  have b3 : (k == 3) = false := by simpa using h3
  have b4 : (k == 4) = false := by simpa using h4
  have b5 : (k == 5) = false := by simpa using h5
  have b6 : (k == 6) = false := by simpa using h6
  rw [e]
  clear e h1 h2 h3 h4 h5 h6
  go_enter Try.func89, Try.ntmps89
  go_wp2_with fail
  go_ret
  exact ⟨rfl, rfl⟩
end Go.Proofs.Ytcddkcejjajlhaa


namespace Go.Proofs.Ytcddkcejjajlhaa
open Go.RowKit Go

set_option maxHeartbeats 1000000 in
theorem sc_raw_NVVE (n : Int) (hn : (n == 0) = false) (x : Bool) (r : Nat) (w : World) : Calls Try.prog 81 #[itA 0 ⟨#[]⟩ n x (r : Int)] w (NewLen w 0) := by
  go_enter Try.func81, Try.ntmps81
  go_wp2_with fail
  go_ret
  exact new_emp (by simp) (by go_grown)

set_option maxHeartbeats 1000000 in
theorem sc_raw_NVVN (nm : ByteArray) (hnm : nm.toList.isEmpty = false) (n : Int) (hn : (n == 0) = false) (x : Bool) (r : Nat) (w : World) : Calls Try.prog 81 #[itA 0 nm n x (r : Int)] w (NewLen w 0) := by
  go_enter Try.func81, Try.ntmps81
  go_wp2_with fail
  go_ret
  exact new_emp (by simp) (by go_grown)

set_option maxHeartbeats 1000000 in
theorem sc_raw_ZTVE (r : Nat) (w : World) : Calls Try.prog 81 #[itA 0 ⟨#[]⟩ 0 true (r : Int)] w (NewLen w 0) := by
  go_enter Try.func81, Try.ntmps81
  go_wp2_with fail
  go_ret
  exact new_emp (by simp) (by go_grown)

set_option maxHeartbeats 1000000 in
theorem sc_raw_ZTVN (nm : ByteArray) (hnm : nm.toList.isEmpty = false) (r : Nat) (w : World) : Calls Try.prog 81 #[itA 0 nm 0 true (r : Int)] w (NewLen w 0) := by
  go_enter Try.func81, Try.ntmps81
  go_wp2_with fail
  go_ret
  exact new_emp (by simp) (by go_grown)

set_option maxHeartbeats 1000000 in
theorem sc_raw_ZFNE (r : Nat) (hr : ((r : Int) == 0) = false) (hr2 : r < 4294967296) (w : World) : Calls Try.prog 81 #[itA 0 ⟨#[]⟩ 0 false (r : Int)] w (NewLen w 1) := by
  have HR := Lib.hid hr2
  clear hr2
  go_enter Try.func81, Try.ntmps81
  go_wp2_with fail
  go_ret
  exact new_one (by simp) ⟨r, rfl, HR.out⟩ (by go_grown)

set_option maxHeartbeats 1000000 in
theorem sc_raw_ZFNN (nm : ByteArray) (hnm : nm.toList.isEmpty = false) (r : Nat) (hr : ((r : Int) == 0) = false) (w : World) : Calls Try.prog 81 #[itA 0 nm 0 false (r : Int)] w (NewLen w 0) := by
  go_enter Try.func81, Try.ntmps81
  go_wp2_with fail
  go_ret
  exact new_emp (by simp) (by go_grown)

set_option maxHeartbeats 1000000 in
theorem sc_raw_ZFZE  (w : World) : Calls Try.prog 81 #[itA 0 ⟨#[]⟩ 0 false 0] w (NewLen w 1) := by
  go_enter Try.func81, Try.ntmps81
  go_wp2_with fail
  go_ret
  exact new_one (by simp) ⟨0, rfl, by omega⟩ (by go_grown)

set_option maxHeartbeats 1000000 in
theorem sc_raw_ZFZN (nm : ByteArray) (hnm : nm.toList.isEmpty = false) (w : World) : Calls Try.prog 81 #[itA 0 nm 0 false 0] w (NewLen w 0) := by
  go_enter Try.func81, Try.ntmps81
  go_wp2_with fail
  go_ret
  exact new_emp (by simp) (by go_grown)

end Go.Proofs.Ytcddkcejjajlhaa


namespace Go.Proofs.Ytcddkcejjajlhaa
open Go.RowKit Go

set_option maxHeartbeats 1000000 in
theorem sc_n7_NVZE (n : Int) (hn : (n == 0) = false) (x : Bool) (m : Nat) (HN : Hid (∀ W, Calls Try.prog 87 #[.int .i32 n, .bool x, .int .u32 8, .int .u32 2] W (NewLen W m))) (w : World) : Calls Try.prog 81 #[itA 7 ⟨#[]⟩ n x 0] w (NewLen w m) := by
  go_enter Try.func81, Try.ntmps81
  go_wp2_with fail
  refine (HN.out _).mono ?_
  rintro e w3 ⟨v, zs, rfl, hl, hz, hown, hb3⟩
  have HE := Lib.hid (show NewLen w m (.returned v) w3 from ⟨v, zs, rfl, hl, hz, own_base hown (by simp), (((Below.refl w.heap.size w).alloc (Nat.le_refl _) _).trans (hb3.mono (by simp)))⟩)
  clear hl hz hown hb3
  go_wp2_with fail
  go_ret
  exact HE.out

set_option maxHeartbeats 1000000 in
theorem sc_n7_NVNE (n : Int) (hn : (n == 0) = false) (x : Bool) (r : Nat) (hr : ((r : Int) == 0) = false) (w : World) : Calls Try.prog 81 #[itA 7 ⟨#[]⟩ n x (r : Int)] w (NewLen w 0) := by
  go_enter Try.func81, Try.ntmps81
  go_wp2_with fail
  go_ret
  exact new_emp (by simp) (by go_grown)

set_option maxHeartbeats 1000000 in
theorem sc_n7_NVVN (nm : ByteArray) (hnm : nm.toList.isEmpty = false) (n : Int) (hn : (n == 0) = false) (x : Bool) (r : Nat) (w : World) : Calls Try.prog 81 #[itA 7 nm n x (r : Int)] w (NewLen w 0) := by
  go_enter Try.func81, Try.ntmps81
  go_wp2_with fail
  go_ret
  exact new_emp (by simp) (by go_grown)

set_option maxHeartbeats 1000000 in
theorem sc_n7_ZTZE (m : Nat) (HN : Hid (∀ W, Calls Try.prog 87 #[.int .i32 0, .bool true, .int .u32 8, .int .u32 2] W (NewLen W m))) (w : World) : Calls Try.prog 81 #[itA 7 ⟨#[]⟩ 0 true 0] w (NewLen w m) := by
  go_enter Try.func81, Try.ntmps81
  go_wp2_with fail
  refine (HN.out _).mono ?_
  rintro e w3 ⟨v, zs, rfl, hl, hz, hown, hb3⟩
  have HE := Lib.hid (show NewLen w m (.returned v) w3 from ⟨v, zs, rfl, hl, hz, own_base hown (by simp), (((Below.refl w.heap.size w).alloc (Nat.le_refl _) _).trans (hb3.mono (by simp)))⟩)
  clear hl hz hown hb3
  go_wp2_with fail
  go_ret
  exact HE.out

set_option maxHeartbeats 1000000 in
theorem sc_n7_ZTNE (r : Nat) (hr : ((r : Int) == 0) = false) (w : World) : Calls Try.prog 81 #[itA 7 ⟨#[]⟩ 0 true (r : Int)] w (NewLen w 0) := by
  go_enter Try.func81, Try.ntmps81
  go_wp2_with fail
  go_ret
  exact new_emp (by simp) (by go_grown)

set_option maxHeartbeats 1000000 in
theorem sc_n7_ZTVN (nm : ByteArray) (hnm : nm.toList.isEmpty = false) (r : Nat) (w : World) : Calls Try.prog 81 #[itA 7 nm 0 true (r : Int)] w (NewLen w 0) := by
  go_enter Try.func81, Try.ntmps81
  go_wp2_with fail
  go_ret
  exact new_emp (by simp) (by go_grown)

set_option maxHeartbeats 1000000 in
theorem sc_n7_ZFNE (r : Nat) (hr : ((r : Int) == 0) = false) (w : World) : Calls Try.prog 81 #[itA 7 ⟨#[]⟩ 0 false (r : Int)] w (NewLen w 0) := by
  go_enter Try.func81, Try.ntmps81
  go_wp2_with fail
  go_ret
  exact new_emp (by simp) (by go_grown)

set_option maxHeartbeats 1000000 in
theorem sc_n7_ZFNN (nm : ByteArray) (hnm : nm.toList.isEmpty = false) (r : Nat) (hr : ((r : Int) == 0) = false) (w : World) : Calls Try.prog 81 #[itA 7 nm 0 false (r : Int)] w (NewLen w 0) := by
  go_enter Try.func81, Try.ntmps81
  go_wp2_with fail
  go_ret
  exact new_emp (by simp) (by go_grown)

set_option maxHeartbeats 1000000 in
theorem sc_n7_ZFZE (m : Nat) (HN : Hid (∀ W, Calls Try.prog 87 #[.int .i32 0, .bool false, .int .u32 8, .int .u32 2] W (NewLen W m))) (w : World) : Calls Try.prog 81 #[itA 7 ⟨#[]⟩ 0 false 0] w (NewLen w m) := by
  go_enter Try.func81, Try.ntmps81
  go_wp2_with fail
  refine (HN.out _).mono ?_
  rintro e w3 ⟨v, zs, rfl, hl, hz, hown, hb3⟩
  have HE := Lib.hid (show NewLen w m (.returned v) w3 from ⟨v, zs, rfl, hl, hz, own_base hown (by simp), (((Below.refl w.heap.size w).alloc (Nat.le_refl _) _).trans (hb3.mono (by simp)))⟩)
  clear hl hz hown hb3
  go_wp2_with fail
  go_ret
  exact HE.out

set_option maxHeartbeats 1000000 in
theorem sc_n7_ZFZN (nm : ByteArray) (hnm : nm.toList.isEmpty = false) (w : World) : Calls Try.prog 81 #[itA 7 nm 0 false 0] w (NewLen w 0) := by
  go_enter Try.func81, Try.ntmps81
  go_wp2_with fail
  go_ret
  exact new_emp (by simp) (by go_grown)

end Go.Proofs.Ytcddkcejjajlhaa


namespace Go.Proofs.Ytcddkcejjajlhaa
open Go.RowKit Go

set_option maxHeartbeats 1000000 in
theorem sc_n8_NVZE (n : Int) (hn : (n == 0) = false) (x : Bool) (m : Nat) (HN : Hid (∀ W, Calls Try.prog 87 #[.int .i32 n, .bool x, .int .u32 6, .int .u32 5] W (NewLen W m))) (w : World) : Calls Try.prog 81 #[itA 8 ⟨#[]⟩ n x 0] w (NewLen w m) := by
  go_enter Try.func81, Try.ntmps81
  go_wp2_with fail
  refine (HN.out _).mono ?_
  rintro e w3 ⟨v, zs, rfl, hl, hz, hown, hb3⟩
  have HE := Lib.hid (show NewLen w m (.returned v) w3 from ⟨v, zs, rfl, hl, hz, own_base hown (by simp), (((Below.refl w.heap.size w).alloc (Nat.le_refl _) _).trans (hb3.mono (by simp)))⟩)
  clear hl hz hown hb3
  go_wp2_with fail
  go_ret
  exact HE.out

set_option maxHeartbeats 1000000 in
theorem sc_n8_NVNE (n : Int) (hn : (n == 0) = false) (x : Bool) (r : Nat) (hr : ((r : Int) == 0) = false) (w : World) : Calls Try.prog 81 #[itA 8 ⟨#[]⟩ n x (r : Int)] w (NewLen w 0) := by
  go_enter Try.func81, Try.ntmps81
  go_wp2_with fail
  go_ret
  exact new_emp (by simp) (by go_grown)

set_option maxHeartbeats 1000000 in
theorem sc_n8_NVVN (nm : ByteArray) (hnm : nm.toList.isEmpty = false) (n : Int) (hn : (n == 0) = false) (x : Bool) (r : Nat) (w : World) : Calls Try.prog 81 #[itA 8 nm n x (r : Int)] w (NewLen w 0) := by
  go_enter Try.func81, Try.ntmps81
  go_wp2_with fail
  go_ret
  exact new_emp (by simp) (by go_grown)

set_option maxHeartbeats 1000000 in
theorem sc_n8_ZTZE (m : Nat) (HN : Hid (∀ W, Calls Try.prog 87 #[.int .i32 0, .bool true, .int .u32 6, .int .u32 5] W (NewLen W m))) (w : World) : Calls Try.prog 81 #[itA 8 ⟨#[]⟩ 0 true 0] w (NewLen w m) := by
  go_enter Try.func81, Try.ntmps81
  go_wp2_with fail
  refine (HN.out _).mono ?_
  rintro e w3 ⟨v, zs, rfl, hl, hz, hown, hb3⟩
  have HE := Lib.hid (show NewLen w m (.returned v) w3 from ⟨v, zs, rfl, hl, hz, own_base hown (by simp), (((Below.refl w.heap.size w).alloc (Nat.le_refl _) _).trans (hb3.mono (by simp)))⟩)
  clear hl hz hown hb3
  go_wp2_with fail
  go_ret
  exact HE.out

set_option maxHeartbeats 1000000 in
theorem sc_n8_ZTNE (r : Nat) (hr : ((r : Int) == 0) = false) (w : World) : Calls Try.prog 81 #[itA 8 ⟨#[]⟩ 0 true (r : Int)] w (NewLen w 0) := by
  go_enter Try.func81, Try.ntmps81
  go_wp2_with fail
  go_ret
  exact new_emp (by simp) (by go_grown)

set_option maxHeartbeats 1000000 in
theorem sc_n8_ZTVN (nm : ByteArray) (hnm : nm.toList.isEmpty = false) (r : Nat) (w : World) : Calls Try.prog 81 #[itA 8 nm 0 true (r : Int)] w (NewLen w 0) := by
  go_enter Try.func81, Try.ntmps81
  go_wp2_with fail
  go_ret
  exact new_emp (by simp) (by go_grown)

set_option maxHeartbeats 1000000 in
theorem sc_n8_ZFNE (r : Nat) (hr : ((r : Int) == 0) = false) (w : World) : Calls Try.prog 81 #[itA 8 ⟨#[]⟩ 0 false (r : Int)] w (NewLen w 0) := by
  go_enter Try.func81, Try.ntmps81
  go_wp2_with fail
  go_ret
  exact new_emp (by simp) (by go_grown)

set_option maxHeartbeats 1000000 in
theorem sc_n8_ZFNN (nm : ByteArray) (hnm : nm.toList.isEmpty = false) (r : Nat) (hr : ((r : Int) == 0) = false) (w : World) : Calls Try.prog 81 #[itA 8 nm 0 false (r : Int)] w (NewLen w 0) := by
  go_enter Try.func81, Try.ntmps81
  go_wp2_with fail
  go_ret
  exact new_emp (by simp) (by go_grown)

set_option maxHeartbeats 1000000 in
theorem sc_n8_ZFZE (m : Nat) (HN : Hid (∀ W, Calls Try.prog 87 #[.int .i32 0, .bool false, .int .u32 6, .int .u32 5] W (NewLen W m))) (w : World) : Calls Try.prog 81 #[itA 8 ⟨#[]⟩ 0 false 0] w (NewLen w m) := by
  go_enter Try.func81, Try.ntmps81
  go_wp2_with fail
  refine (HN.out _).mono ?_
  rintro e w3 ⟨v, zs, rfl, hl, hz, hown, hb3⟩
  have HE := Lib.hid (show NewLen w m (.returned v) w3 from ⟨v, zs, rfl, hl, hz, own_base hown (by simp), (((Below.refl w.heap.size w).alloc (Nat.le_refl _) _).trans (hb3.mono (by simp)))⟩)
  clear hl hz hown hb3
  go_wp2_with fail
  go_ret
  exact HE.out

set_option maxHeartbeats 1000000 in
theorem sc_n8_ZFZN (nm : ByteArray) (hnm : nm.toList.isEmpty = false) (w : World) : Calls Try.prog 81 #[itA 8 nm 0 false 0] w (NewLen w 0) := by
  go_enter Try.func81, Try.ntmps81
  go_wp2_with fail
  go_ret
  exact new_emp (by simp) (by go_grown)

end Go.Proofs.Ytcddkcejjajlhaa


namespace Go.Proofs.Ytcddkcejjajlhaa
open Go.RowKit Go

set_option maxHeartbeats 1000000 in
theorem sc_word_NVV (k : Int) (h : wordK k = true) (nm : ByteArray) (n : Int) (hn : (n == 0) = false) (x : Bool) (r : Nat) (w : World) : Calls Try.prog 81 #[itA k nm n x (r : Int)] w (NewLen w 0) := by
  have hk := of_decide_eq_true h
  have b0 : (k == 0) = false := by simp; omega
  have b7 : (k == 7) = false := by simp; omega
  have b8 : (k == 8) = false := by simp; omega
  have b9 : (k == 9) = false := by simp; omega
  have HT := Lib.hid (fun W => spec_tag k W)
  have ht : 0 < tagW k := by
    unfold tagW
    (repeat' split) <;> omega
  obtain ⟨t, htt⟩ : ∃ t, tagW k = t := ⟨_, rfl⟩
  rw [htt] at HT ht
  clear h hk htt
  go_enter Try.func81, Try.ntmps81
  go_wp2_with fail
  refine (HT.out _).mono ?_
  rintro e w' ⟨rfl, rfl⟩
  go_wp2_with fail
  go_ret
  exact new_emp (by simp) (by go_grown)

set_option maxHeartbeats 1000000 in
theorem sc_word_ZTV (k : Int) (h : wordK k = true) (nm : ByteArray) (r : Nat) (w : World) : Calls Try.prog 81 #[itA k nm 0 true (r : Int)] w (NewLen w 0) := by
  have hk := of_decide_eq_true h
  have b0 : (k == 0) = false := by simp; omega
  have b7 : (k == 7) = false := by simp; omega
  have b8 : (k == 8) = false := by simp; omega
  have b9 : (k == 9) = false := by simp; omega
  have HT := Lib.hid (fun W => spec_tag k W)
  have ht : 0 < tagW k := by
    unfold tagW
    (repeat' split) <;> omega
  obtain ⟨t, htt⟩ : ∃ t, tagW k = t := ⟨_, rfl⟩
  rw [htt] at HT ht
  clear h hk htt
  go_enter Try.func81, Try.ntmps81
  go_wp2_with fail
  refine (HT.out _).mono ?_
  rintro e w' ⟨rfl, rfl⟩
  go_wp2_with fail
  go_ret
  exact new_emp (by simp) (by go_grown)

set_option maxHeartbeats 1000000 in
theorem sc_word_ZFN (k : Int) (h : wordK k = true) (nm : ByteArray) (r : Nat) (hr : ((r : Int) == 0) = false) (w : World) : Calls Try.prog 81 #[itA k nm 0 false (r : Int)] w (NewLen w 0) := by
  have hk := of_decide_eq_true h
  have b0 : (k == 0) = false := by simp; omega
  have b7 : (k == 7) = false := by simp; omega
  have b8 : (k == 8) = false := by simp; omega
  have b9 : (k == 9) = false := by simp; omega
  have HT := Lib.hid (fun W => spec_tag k W)
  have ht : 0 < tagW k := by
    unfold tagW
    (repeat' split) <;> omega
  obtain ⟨t, htt⟩ : ∃ t, tagW k = t := ⟨_, rfl⟩
  rw [htt] at HT ht
  clear h hk htt
  go_enter Try.func81, Try.ntmps81
  go_wp2_with fail
  refine (HT.out _).mono ?_
  rintro e w' ⟨rfl, rfl⟩
  go_wp2_with fail
  go_ret
  exact new_emp (by simp) (by go_grown)

set_option maxHeartbeats 1000000 in
theorem sc_word_ZFZ (k : Int) (h : wordK k = true) (nm : ByteArray) (hs : nm.size ≤ 4611686018427387904) (w : World) : Calls Try.prog 81 #[itA k nm 0 false 0] w (NewLen w (packs nm.data.toList).length) := by
  have hk := of_decide_eq_true h
  have b0 : (k == 0) = false := by simp; omega
  have b7 : (k == 7) = false := by simp; omega
  have b8 : (k == 8) = false := by simp; omega
  have b9 : (k == 9) = false := by simp; omega
  have HT := Lib.hid (fun W => spec_tag k W)
  have ht : 0 < tagW k := by
    unfold tagW
    (repeat' split) <;> omega
  have HWD := Lib.hid (fun t W => spec_word t nm hs W)
  clear hs
  obtain ⟨t, htt⟩ : ∃ t, tagW k = t := ⟨_, rfl⟩
  rw [htt] at HT ht
  clear h hk htt
  go_enter Try.func81, Try.ntmps81
  go_wp2_with fail
  refine (HT.out _).mono ?_
  rintro e w' ⟨rfl, rfl⟩
  go_wp2_with fail
  refine (HWD.out _ _).mono ?_
  rintro e w3 ⟨v, zs, rfl, hl, hz, hown, hb3⟩
  have HE := Lib.hid (show NewLen w (packs nm.data.toList).length (.returned v) w3 from ⟨v, zs, rfl, hl, hz, own_base hown (by simp), (((Below.refl w.heap.size w).alloc (Nat.le_refl _) _).trans (hb3.mono (by simp)))⟩)
  clear hl hz hown hb3
  go_wp2_with fail
  go_ret
  exact HE.out

set_option maxHeartbeats 1000000 in
theorem sc_else_NVV (k : Int) (h : ¬ (0 ≤ k ∧ k ≤ 9)) (nm : ByteArray) (n : Int) (hn : (n == 0) = false) (x : Bool) (r : Nat) (w : World) : Calls Try.prog 81 #[itA k nm n x (r : Int)] w (NewLen w 0) := by
  have b0 : (k == 0) = false := by simp; omega
  have b7 : (k == 7) = false := by simp; omega
  have b8 : (k == 8) = false := by simp; omega
  have b9 : (k == 9) = false := by simp; omega
  have ht : tagW k = 0 := by unfold tagW; rw [if_neg (by omega), if_neg (by omega), if_neg (by omega), if_neg (by omega), if_neg (by omega), if_neg (by omega)]
  have HT := Lib.hid (fun W => spec_tag k W)
  rw [ht] at HT
  clear h ht
  go_enter Try.func81, Try.ntmps81
  go_wp2_with fail
  refine (HT.out _).mono ?_
  rintro e w' ⟨rfl, rfl⟩
  go_wp2_with fail
  go_ret
  exact new_emp (by simp) (by go_grown)

set_option maxHeartbeats 1000000 in
theorem sc_else_ZTV (k : Int) (h : ¬ (0 ≤ k ∧ k ≤ 9)) (nm : ByteArray) (r : Nat) (w : World) : Calls Try.prog 81 #[itA k nm 0 true (r : Int)] w (NewLen w 0) := by
  have b0 : (k == 0) = false := by simp; omega
  have b7 : (k == 7) = false := by simp; omega
  have b8 : (k == 8) = false := by simp; omega
  have b9 : (k == 9) = false := by simp; omega
  have ht : tagW k = 0 := by unfold tagW; rw [if_neg (by omega), if_neg (by omega), if_neg (by omega), if_neg (by omega), if_neg (by omega), if_neg (by omega)]
  have HT := Lib.hid (fun W => spec_tag k W)
  rw [ht] at HT
  clear h ht
  go_enter Try.func81, Try.ntmps81
  go_wp2_with fail
  refine (HT.out _).mono ?_
  rintro e w' ⟨rfl, rfl⟩
  go_wp2_with fail
  go_ret
  exact new_emp (by simp) (by go_grown)

set_option maxHeartbeats 1000000 in
theorem sc_else_ZFN (k : Int) (h : ¬ (0 ≤ k ∧ k ≤ 9)) (nm : ByteArray) (r : Nat) (hr : ((r : Int) == 0) = false) (w : World) : Calls Try.prog 81 #[itA k nm 0 false (r : Int)] w (NewLen w 0) := by
  have b0 : (k == 0) = false := by simp; omega
  have b7 : (k == 7) = false := by simp; omega
  have b8 : (k == 8) = false := by simp; omega
  have b9 : (k == 9) = false := by simp; omega
  have ht : tagW k = 0 := by unfold tagW; rw [if_neg (by omega), if_neg (by omega), if_neg (by omega), if_neg (by omega), if_neg (by omega), if_neg (by omega)]
  have HT := Lib.hid (fun W => spec_tag k W)
  rw [ht] at HT
  clear h ht
  go_enter Try.func81, Try.ntmps81
  go_wp2_with fail
  refine (HT.out _).mono ?_
  rintro e w' ⟨rfl, rfl⟩
  go_wp2_with fail
  go_ret
  exact new_emp (by simp) (by go_grown)

set_option maxHeartbeats 1000000 in
theorem sc_else_ZFZ (k : Int) (h : ¬ (0 ≤ k ∧ k ≤ 9)) (nm : ByteArray) (w : World) : Calls Try.prog 81 #[itA k nm 0 false 0] w (NewLen w 0) := by
  have b0 : (k == 0) = false := by simp; omega
  have b7 : (k == 7) = false := by simp; omega
  have b8 : (k == 8) = false := by simp; omega
  have b9 : (k == 9) = false := by simp; omega
  have ht : tagW k = 0 := by unfold tagW; rw [if_neg (by omega), if_neg (by omega), if_neg (by omega), if_neg (by omega), if_neg (by omega), if_neg (by omega)]
  have HT := Lib.hid (fun W => spec_tag k W)
  rw [ht] at HT
  clear h ht
  go_enter Try.func81, Try.ntmps81
  go_wp2_with fail
  refine (HT.out _).mono ?_
  rintro e w' ⟨rfl, rfl⟩
  go_wp2_with fail
  go_ret
  exact new_emp (by simp) (by go_grown)

end Go.Proofs.Ytcddkcejjajlhaa


namespace Go.Proofs.Ytcddkcejjajlhaa
open Go.RowKit Go

set_option maxHeartbeats 1000000 in
theorem sc_var_NTV (nm : ByteArray) (n : Int) (hn : (n == 0) = false) (r : Nat) (m : Nat) (h1 : m = 1) (HWD : Hid (∀ W, Calls Try.prog 88 #[.int .u32 12, .string nm] W (NewLen W m))) (w : World) : Calls Try.prog 81 #[itA 9 nm n true (r : Int)] w (NewLen w 0) := by
  subst h1
  go_enter Try.func81, Try.ntmps81
  go_wp2_with fail
  refine (HWD.out _).mono ?_
  rintro e w3 ⟨v, zs, rfl, hl, hz, hown, hb3⟩
  have HE := Lib.hid (show w3.ownsRow w.heap.size 43 1 v zs.length (zs.map u32v) ∧ (∀ z ∈ zs, z < 4294967296) ∧ Below w.heap.size w w3 from ⟨own_base hown (by simp), hz, (((Below.refl w.heap.size w).alloc (Nat.le_refl _) _).trans (hb3.mono (by simp)))⟩)
  obtain ⟨A, cap, rfl⟩ := own_slice hown
  have hb4 : Below (w.heap.size + 1) (w.alloc (.cells #[.int .i64 9, .string nm, .int .i32 n, .bool true, .int .u32 (r : Int)] 83)) w3 := hb3.mono (by simp)
  obtain ⟨c0, c1, c2, c3, c4⟩ := it_box hb4
  have HL := Lib.hid hl
  rw [hl]
  clear hl hz hb3 hb4 hown
  go_wp2_with fail
  go_ret
  exact ⟨_, [], rfl, rfl, fun _ hz => absurd hz List.not_mem_nil, own_base (own_empty _ _) HE.out.2.2.size, HE.out.2.2.alloc HE.out.2.2.size _⟩

set_option maxHeartbeats 1000000 in
theorem sc_var_NFZ (nm : ByteArray) (n : Int) (hn : (n == 0) = false) (m : Nat) (h1 : m = 1) (HWD : Hid (∀ W, Calls Try.prog 88 #[.int .u32 12, .string nm] W (NewLen W m))) (w : World) : Calls Try.prog 81 #[itA 9 nm n false 0] w (NewLen w 2) := by
  obtain ⟨i0, hi, hz0, hz1, hz2⟩ := info_parts infoU32
  subst h1
  go_enter Try.func81, Try.ntmps81
  go_wp2_with fail
  refine (HWD.out _).mono ?_
  rintro e w3 ⟨v, zs, rfl, hl, hz, hown, hb3⟩
  have HE := Lib.hid (show w3.ownsRow w.heap.size 43 1 v zs.length (zs.map u32v) ∧ (∀ z ∈ zs, z < 4294967296) ∧ Below w.heap.size w w3 from ⟨own_base hown (by simp), hz, (((Below.refl w.heap.size w).alloc (Nat.le_refl _) _).trans (hb3.mono (by simp)))⟩)
  obtain ⟨A, cap, rfl⟩ := own_slice hown
  have hb4 : Below (w.heap.size + 1) (w.alloc (.cells #[.int .i64 9, .string nm, .int .i32 n, .bool false, .int .u32 0] 83)) w3 := hb3.mono (by simp)
  obtain ⟨c0, c1, c2, c3, c4⟩ := it_box hb4
  have hlt : w.heap.size < w3.heap.size := by have := hb3.size; simp at this; omega
  have hown2 := own_base hown (show w.heap.size ≤ _ by simp)
  rw [hl] at hown2
  rw [hl]
  obtain ⟨y, hy, hyl⟩ := u32_some (n)
  have HYL := Lib.hid hyl
  have HL := Lib.hid hl
  clear hl hz hb3 hb4 hyl hown
  go_wp2_with (at_builtin; refine wpList_append_own _ rfl _ _ 24 rfl w.heap.size 43 i0 (.int .u32 0) 1 4 Try.underlying24 hi hz0 hz1 hz2 rfl (by decide) _ _ _ rfl (hown2.alloc _) ⟨w3.heap.size, 0, none⟩ 1 1 [.int .u32 (y : Int)] rfl rfl (cell_one_new _ _ _) (by simp [Value.oneCell']) (by unfold maxLen; omega) (by omega) (by simp; omega) ?_; intro v' w4 hown' hgrow _)
  go_ret
  exact ⟨v', zs ++ [y], rfl, by rw [List.length_append, HL.out]; rfl, (snoc_len (pre := zs) (p := 0) ⟨rfl, HE.out.2.1⟩ HYL.out).2, by rw [List.length_append, HL.out, List.map_append]; exact hown', (HE.out.2.2.alloc HE.out.2.2.size _).grown hgrow (by simp; omega) (own_lt hown2)⟩

set_option maxHeartbeats 1000000 in
theorem sc_var_NFN (nm : ByteArray) (n : Int) (hn : (n == 0) = false) (r : Nat) (hr : ((r : Int) == 0) = false) (m : Nat) (h1 : m = 1) (HWD : Hid (∀ W, Calls Try.prog 88 #[.int .u32 12, .string nm] W (NewLen W m))) (w : World) : Calls Try.prog 81 #[itA 9 nm n false (r : Int)] w (NewLen w 0) := by
  subst h1
  go_enter Try.func81, Try.ntmps81
  go_wp2_with fail
  refine (HWD.out _).mono ?_
  rintro e w3 ⟨v, zs, rfl, hl, hz, hown, hb3⟩
  have HE := Lib.hid (show w3.ownsRow w.heap.size 43 1 v zs.length (zs.map u32v) ∧ (∀ z ∈ zs, z < 4294967296) ∧ Below w.heap.size w w3 from ⟨own_base hown (by simp), hz, (((Below.refl w.heap.size w).alloc (Nat.le_refl _) _).trans (hb3.mono (by simp)))⟩)
  obtain ⟨A, cap, rfl⟩ := own_slice hown
  have hb4 : Below (w.heap.size + 1) (w.alloc (.cells #[.int .i64 9, .string nm, .int .i32 n, .bool false, .int .u32 (r : Int)] 83)) w3 := hb3.mono (by simp)
  obtain ⟨c0, c1, c2, c3, c4⟩ := it_box hb4
  have HL := Lib.hid hl
  rw [hl]
  clear hl hz hb3 hb4 hown
  go_wp2_with fail
  go_ret
  exact ⟨_, [], rfl, rfl, fun _ hz => absurd hz List.not_mem_nil, own_base (own_empty _ _) HE.out.2.2.size, HE.out.2.2.alloc HE.out.2.2.size _⟩

set_option maxHeartbeats 1000000 in
theorem sc_var_ZTV (nm : ByteArray) (r : Nat) (m : Nat) (h1 : m = 1) (HWD : Hid (∀ W, Calls Try.prog 88 #[.int .u32 12, .string nm] W (NewLen W m))) (w : World) : Calls Try.prog 81 #[itA 9 nm 0 true (r : Int)] w (NewLen w 0) := by
  subst h1
  go_enter Try.func81, Try.ntmps81
  go_wp2_with fail
  refine (HWD.out _).mono ?_
  rintro e w3 ⟨v, zs, rfl, hl, hz, hown, hb3⟩
  have HE := Lib.hid (show w3.ownsRow w.heap.size 43 1 v zs.length (zs.map u32v) ∧ (∀ z ∈ zs, z < 4294967296) ∧ Below w.heap.size w w3 from ⟨own_base hown (by simp), hz, (((Below.refl w.heap.size w).alloc (Nat.le_refl _) _).trans (hb3.mono (by simp)))⟩)
  obtain ⟨A, cap, rfl⟩ := own_slice hown
  have hb4 : Below (w.heap.size + 1) (w.alloc (.cells #[.int .i64 9, .string nm, .int .i32 0, .bool true, .int .u32 (r : Int)] 83)) w3 := hb3.mono (by simp)
  obtain ⟨c0, c1, c2, c3, c4⟩ := it_box hb4
  have HL := Lib.hid hl
  rw [hl]
  clear hl hz hb3 hb4 hown
  go_wp2_with fail
  go_ret
  exact ⟨_, [], rfl, rfl, fun _ hz => absurd hz List.not_mem_nil, own_base (own_empty _ _) HE.out.2.2.size, HE.out.2.2.alloc HE.out.2.2.size _⟩

set_option maxHeartbeats 1000000 in
theorem sc_var_ZFN (nm : ByteArray) (r : Nat) (hr : ((r : Int) == 0) = false) (m : Nat) (h1 : m = 1) (HWD : Hid (∀ W, Calls Try.prog 88 #[.int .u32 12, .string nm] W (NewLen W m))) (w : World) : Calls Try.prog 81 #[itA 9 nm 0 false (r : Int)] w (NewLen w 0) := by
  subst h1
  go_enter Try.func81, Try.ntmps81
  go_wp2_with fail
  refine (HWD.out _).mono ?_
  rintro e w3 ⟨v, zs, rfl, hl, hz, hown, hb3⟩
  have HE := Lib.hid (show w3.ownsRow w.heap.size 43 1 v zs.length (zs.map u32v) ∧ (∀ z ∈ zs, z < 4294967296) ∧ Below w.heap.size w w3 from ⟨own_base hown (by simp), hz, (((Below.refl w.heap.size w).alloc (Nat.le_refl _) _).trans (hb3.mono (by simp)))⟩)
  obtain ⟨A, cap, rfl⟩ := own_slice hown
  have hb4 : Below (w.heap.size + 1) (w.alloc (.cells #[.int .i64 9, .string nm, .int .i32 0, .bool false, .int .u32 (r : Int)] 83)) w3 := hb3.mono (by simp)
  obtain ⟨c0, c1, c2, c3, c4⟩ := it_box hb4
  have HL := Lib.hid hl
  rw [hl]
  clear hl hz hb3 hb4 hown
  go_wp2_with fail
  go_ret
  exact ⟨_, [], rfl, rfl, fun _ hz => absurd hz List.not_mem_nil, own_base (own_empty _ _) HE.out.2.2.size, HE.out.2.2.alloc HE.out.2.2.size _⟩

set_option maxHeartbeats 1000000 in
theorem sc_var_ZFZ (nm : ByteArray) (m : Nat) (h1 : m = 1) (HWD : Hid (∀ W, Calls Try.prog 88 #[.int .u32 12, .string nm] W (NewLen W m))) (w : World) : Calls Try.prog 81 #[itA 9 nm 0 false 0] w (NewLen w 2) := by
  obtain ⟨i0, hi, hz0, hz1, hz2⟩ := info_parts infoU32
  subst h1
  go_enter Try.func81, Try.ntmps81
  go_wp2_with fail
  refine (HWD.out _).mono ?_
  rintro e w3 ⟨v, zs, rfl, hl, hz, hown, hb3⟩
  have HE := Lib.hid (show w3.ownsRow w.heap.size 43 1 v zs.length (zs.map u32v) ∧ (∀ z ∈ zs, z < 4294967296) ∧ Below w.heap.size w w3 from ⟨own_base hown (by simp), hz, (((Below.refl w.heap.size w).alloc (Nat.le_refl _) _).trans (hb3.mono (by simp)))⟩)
  obtain ⟨A, cap, rfl⟩ := own_slice hown
  have hb4 : Below (w.heap.size + 1) (w.alloc (.cells #[.int .i64 9, .string nm, .int .i32 0, .bool false, .int .u32 0] 83)) w3 := hb3.mono (by simp)
  obtain ⟨c0, c1, c2, c3, c4⟩ := it_box hb4
  have hlt : w.heap.size < w3.heap.size := by have := hb3.size; simp at this; omega
  have hown2 := own_base hown (show w.heap.size ≤ _ by simp)
  rw [hl] at hown2
  rw [hl]
  obtain ⟨y, hy, hyl⟩ := u32_some (0)
  have HYL := Lib.hid hyl
  have HL := Lib.hid hl
  clear hl hz hb3 hb4 hyl hown
  go_wp2_with (at_builtin; refine wpList_append_own _ rfl _ _ 24 rfl w.heap.size 43 i0 (.int .u32 0) 1 4 Try.underlying24 hi hz0 hz1 hz2 rfl (by decide) _ _ _ rfl (hown2.alloc _) ⟨w3.heap.size, 0, none⟩ 1 1 [.int .u32 (y : Int)] rfl rfl (cell_one_new _ _ _) (by simp [Value.oneCell']) (by unfold maxLen; omega) (by omega) (by simp; omega) ?_; intro v' w4 hown' hgrow _)
  go_ret
  exact ⟨v', zs ++ [y], rfl, by rw [List.length_append, HL.out]; rfl, (snoc_len (pre := zs) (p := 0) ⟨rfl, HE.out.2.1⟩ HYL.out).2, by rw [List.length_append, HL.out, List.map_append]; exact hown', (HE.out.2.2.alloc HE.out.2.2.size _).grown hgrow (by simp; omega) (own_lt hown2)⟩

set_option maxHeartbeats 1000000 in
theorem sc_vno_NVV (nm : ByteArray) (n : Int) (hn : (n == 0) = false) (x : Bool) (r : Nat) (m : Nat) (h1 : m ≠ 1) (HWD : Hid (∀ W, Calls Try.prog 88 #[.int .u32 12, .string nm] W (NewLen W m))) (w : World) : Calls Try.prog 81 #[itA 9 nm n x (r : Int)] w (NewLen w 0) := by
  go_enter Try.func81, Try.ntmps81
  go_wp2_with fail
  refine (HWD.out _).mono ?_
  rintro e w3 ⟨v, zs, rfl, hl, hz, hown, hb3⟩
  have HE := Lib.hid (show w3.ownsRow w.heap.size 43 1 v zs.length (zs.map u32v) ∧ (∀ z ∈ zs, z < 4294967296) ∧ Below w.heap.size w w3 from ⟨own_base hown (by simp), hz, (((Below.refl w.heap.size w).alloc (Nat.le_refl _) _).trans (hb3.mono (by simp)))⟩)
  obtain ⟨A, cap, rfl⟩ := own_slice hown
  have hne : ((zs.length : Int) == 1) = false := by simp; omega
  clear hl hz hb3 hown h1
  go_wp2_with fail
  go_ret
  exact ⟨_, [], rfl, rfl, fun _ hz => absurd hz List.not_mem_nil, own_base (own_empty _ _) HE.out.2.2.size, HE.out.2.2.alloc HE.out.2.2.size _⟩

set_option maxHeartbeats 1000000 in
theorem sc_vno_ZTV (nm : ByteArray) (r : Nat) (m : Nat) (h1 : m ≠ 1) (HWD : Hid (∀ W, Calls Try.prog 88 #[.int .u32 12, .string nm] W (NewLen W m))) (w : World) : Calls Try.prog 81 #[itA 9 nm 0 true (r : Int)] w (NewLen w 0) := by
  go_enter Try.func81, Try.ntmps81
  go_wp2_with fail
  refine (HWD.out _).mono ?_
  rintro e w3 ⟨v, zs, rfl, hl, hz, hown, hb3⟩
  have HE := Lib.hid (show w3.ownsRow w.heap.size 43 1 v zs.length (zs.map u32v) ∧ (∀ z ∈ zs, z < 4294967296) ∧ Below w.heap.size w w3 from ⟨own_base hown (by simp), hz, (((Below.refl w.heap.size w).alloc (Nat.le_refl _) _).trans (hb3.mono (by simp)))⟩)
  obtain ⟨A, cap, rfl⟩ := own_slice hown
  have hne : ((zs.length : Int) == 1) = false := by simp; omega
  clear hl hz hb3 hown h1
  go_wp2_with fail
  go_ret
  exact ⟨_, [], rfl, rfl, fun _ hz => absurd hz List.not_mem_nil, own_base (own_empty _ _) HE.out.2.2.size, HE.out.2.2.alloc HE.out.2.2.size _⟩

set_option maxHeartbeats 1000000 in
theorem sc_vno_ZFN (nm : ByteArray) (r : Nat) (hr : ((r : Int) == 0) = false) (m : Nat) (h1 : m ≠ 1) (HWD : Hid (∀ W, Calls Try.prog 88 #[.int .u32 12, .string nm] W (NewLen W m))) (w : World) : Calls Try.prog 81 #[itA 9 nm 0 false (r : Int)] w (NewLen w 0) := by
  go_enter Try.func81, Try.ntmps81
  go_wp2_with fail
  refine (HWD.out _).mono ?_
  rintro e w3 ⟨v, zs, rfl, hl, hz, hown, hb3⟩
  have HE := Lib.hid (show w3.ownsRow w.heap.size 43 1 v zs.length (zs.map u32v) ∧ (∀ z ∈ zs, z < 4294967296) ∧ Below w.heap.size w w3 from ⟨own_base hown (by simp), hz, (((Below.refl w.heap.size w).alloc (Nat.le_refl _) _).trans (hb3.mono (by simp)))⟩)
  obtain ⟨A, cap, rfl⟩ := own_slice hown
  have hne : ((zs.length : Int) == 1) = false := by simp; omega
  clear hl hz hb3 hown h1
  go_wp2_with fail
  go_ret
  exact ⟨_, [], rfl, rfl, fun _ hz => absurd hz List.not_mem_nil, own_base (own_empty _ _) HE.out.2.2.size, HE.out.2.2.alloc HE.out.2.2.size _⟩

set_option maxHeartbeats 1000000 in
theorem sc_vno_ZFZ (nm : ByteArray) (m : Nat) (h1 : m ≠ 1) (HWD : Hid (∀ W, Calls Try.prog 88 #[.int .u32 12, .string nm] W (NewLen W m))) (w : World) : Calls Try.prog 81 #[itA 9 nm 0 false 0] w (NewLen w 0) := by
  go_enter Try.func81, Try.ntmps81
  go_wp2_with fail
  refine (HWD.out _).mono ?_
  rintro e w3 ⟨v, zs, rfl, hl, hz, hown, hb3⟩
  have HE := Lib.hid (show w3.ownsRow w.heap.size 43 1 v zs.length (zs.map u32v) ∧ (∀ z ∈ zs, z < 4294967296) ∧ Below w.heap.size w w3 from ⟨own_base hown (by simp), hz, (((Below.refl w.heap.size w).alloc (Nat.le_refl _) _).trans (hb3.mono (by simp)))⟩)
  obtain ⟨A, cap, rfl⟩ := own_slice hown
  have hne : ((zs.length : Int) == 1) = false := by simp; omega
  clear hl hz hb3 hown h1
  go_wp2_with fail
  go_ret
  exact ⟨_, [], rfl, rfl, fun _ hz => absurd hz List.not_mem_nil, own_base (own_empty _ _) HE.out.2.2.size, HE.out.2.2.alloc HE.out.2.2.size _⟩

end Go.Proofs.Ytcddkcejjajlhaa


namespace Go.Proofs.Ytcddkcejjajlhaa
open Go.RowKit Go

theorem txt_ne {nm : ByteArray} (h : ¬ nm = noText) : nm.toList.isEmpty = false := by
  rw [ByteArray.toList_eq]
  cases hq : nm.data.toList with
  | nil =>
    refine absurd ?_ h
    obtain ⟨⟨l⟩⟩ := nm
    simp at hq
    rw [hq]
    rfl
  | cons a b => rfl
theorem int_ne {n : Int} (h : ¬ n = 0) : (n == 0) = false := by simpa using h
theorem nat_ne {r : Nat} (h : ¬ r = 0) : ((r : Int) == 0) = false := by simp; exact h
theorem spec_num (n : Int) (x : Bool) (s l : Nat) (w : World) : Calls Try.prog 87 #[.int .i32 n, .bool x, .int .u32 s, .int .u32 l] w (NewLen w (numCells n x s l).length) := by
  unfold numCells
  by_cases h : n < -67108864 ∨ 67108863 < n
  · rw [if_pos (show wideN n = true from decide_eq_true h)]
    exact spec_wide n x s l h w
  · rw [if_neg (by rw [show wideN n = false from decide_eq_false h]; decide)]
    exact spec_narrow n x s l (by omega) (by omega) w
theorem four (n : Int) (x : Bool) (r : Nat) : ¬ n = 0 ∨ (n = 0 ∧ x = true) ∨ (n = 0 ∧ x = false ∧ ¬ r = 0) ∨ (n = 0 ∧ x = false ∧ r = 0) := by
  by_cases h : n = 0
  · cases x with
    | true => exact .inr (.inl ⟨h, rfl⟩)
    | false =>
      by_cases hr : r = 0
      · exact .inr (.inr (.inr ⟨h, rfl, hr⟩))
      · exact .inr (.inr (.inl ⟨h, rfl, hr⟩))
  · exact .inl h
theorem spec_cells_raw (nm : ByteArray) (n : Int) (x : Bool) (r : Nat) (hr4 : r < 4294967296) (w : World) : Calls Try.prog 81 #[itA 0 nm n x (r : Int)] w (NewLen w (cellsOf ⟨0, nm, n, x, r⟩).length) := by
  rcases four n x r with hn | ⟨rfl, rfl⟩ | ⟨rfl, rfl, hr⟩ | ⟨rfl, rfl, rfl⟩ <;> by_cases hm : nm = noText
  · subst hm
    rw [show (cellsOf ⟨0, noText, n, x, r⟩).length = 0 by simp [cellsOf, hn]]
    exact sc_raw_NVVE n (int_ne hn) x r w
  · rw [show (cellsOf ⟨0, nm, n, x, r⟩).length = 0 by simp [cellsOf, hn]]
    exact sc_raw_NVVN nm (txt_ne hm) n (int_ne hn) x r w
  · subst hm
    exact sc_raw_ZTVE r w
  · rw [show (cellsOf ⟨0, nm, 0, true, r⟩).length = 0 by simp [cellsOf]]
    exact sc_raw_ZTVN nm (txt_ne hm) r w
  · subst hm
    rw [show (cellsOf ⟨0, noText, 0, false, r⟩).length = 1 by simp [cellsOf]]
    exact sc_raw_ZFNE r (nat_ne hr) hr4 w
  · rw [show (cellsOf ⟨0, nm, 0, false, r⟩).length = 0 by simp [cellsOf, hm]]
    exact sc_raw_ZFNN nm (txt_ne hm) r (nat_ne hr) w
  · subst hm
    exact sc_raw_ZFZE w
  · rw [show (cellsOf ⟨0, nm, 0, false, 0⟩).length = 0 by simp [cellsOf, hm]]
    exact sc_raw_ZFZN nm (txt_ne hm) w
theorem spec_cells_yel (nm : ByteArray) (n : Int) (x : Bool) (r : Nat) (w : World) : Calls Try.prog 81 #[itA 7 nm n x (r : Int)] w (NewLen w (cellsOf ⟨7, nm, n, x, r⟩).length) := by
  rw [cells_nums (it := ⟨7, nm, n, x, r⟩) (.inl rfl)]
  have HN := Lib.hid (fun W => spec_num n x 8 2 W)
  by_cases hm : nm = noText
  · subst hm
    by_cases hr0 : r = 0
    · subst hr0
      show Calls _ _ _ _ (NewLen w (numCells n x 8 2).length)
      rcases four n x 0 with hn | ⟨rfl, rfl⟩ | ⟨rfl, rfl, hr⟩ | ⟨rfl, rfl, _⟩
      · exact sc_n7_NVZE n (int_ne hn) x _ HN w
      · exact sc_n7_ZTZE _ HN w
      · exact absurd rfl hr
      · exact sc_n7_ZFZE _ HN w
    · rw [if_neg (fun h => hr0 h.2)]
      rcases four n x r with hn | ⟨rfl, rfl⟩ | ⟨rfl, rfl, hr⟩ | ⟨rfl, rfl, hr⟩
      · exact sc_n7_NVNE n (int_ne hn) x r (nat_ne hr0) w
      · exact sc_n7_ZTNE r (nat_ne hr0) w
      · exact sc_n7_ZFNE r (nat_ne hr0) w
      · exact absurd hr hr0
  · rw [if_neg (fun h => hm h.1)]
    rcases four n x r with hn | ⟨rfl, rfl⟩ | ⟨rfl, rfl, hr⟩ | ⟨rfl, rfl, rfl⟩
    · exact sc_n7_NVVN nm (txt_ne hm) n (int_ne hn) x r w
    · exact sc_n7_ZTVN nm (txt_ne hm) r w
    · exact sc_n7_ZFNN nm (txt_ne hm) r (nat_ne hr) w
    · exact sc_n7_ZFZN nm (txt_ne hm) w
theorem spec_cells_green (nm : ByteArray) (n : Int) (x : Bool) (r : Nat) (w : World) : Calls Try.prog 81 #[itA 8 nm n x (r : Int)] w (NewLen w (cellsOf ⟨8, nm, n, x, r⟩).length) := by
  rw [cells_nums (it := ⟨8, nm, n, x, r⟩) (.inr rfl)]
  have HN := Lib.hid (fun W => spec_num n x 6 5 W)
  by_cases hm : nm = noText
  · subst hm
    by_cases hr0 : r = 0
    · subst hr0
      show Calls _ _ _ _ (NewLen w (numCells n x 6 5).length)
      rcases four n x 0 with hn | ⟨rfl, rfl⟩ | ⟨rfl, rfl, hr⟩ | ⟨rfl, rfl, _⟩
      · exact sc_n8_NVZE n (int_ne hn) x _ HN w
      · exact sc_n8_ZTZE _ HN w
      · exact absurd rfl hr
      · exact sc_n8_ZFZE _ HN w
    · rw [if_neg (fun h => hr0 h.2)]
      rcases four n x r with hn | ⟨rfl, rfl⟩ | ⟨rfl, rfl, hr⟩ | ⟨rfl, rfl, hr⟩
      · exact sc_n8_NVNE n (int_ne hn) x r (nat_ne hr0) w
      · exact sc_n8_ZTNE r (nat_ne hr0) w
      · exact sc_n8_ZFNE r (nat_ne hr0) w
      · exact absurd hr hr0
  · rw [if_neg (fun h => hm h.1)]
    rcases four n x r with hn | ⟨rfl, rfl⟩ | ⟨rfl, rfl, hr⟩ | ⟨rfl, rfl, rfl⟩
    · exact sc_n8_NVVN nm (txt_ne hm) n (int_ne hn) x r w
    · exact sc_n8_ZTVN nm (txt_ne hm) r w
    · exact sc_n8_ZFNN nm (txt_ne hm) r (nat_ne hr) w
    · exact sc_n8_ZFZN nm (txt_ne hm) w
theorem spec_cells_var (nm : ByteArray) (n : Int) (x : Bool) (r : Nat) (hs : nm.size ≤ 4611686018427387904) (w : World) : Calls Try.prog 81 #[itA 9 nm n x (r : Int)] w (NewLen w (cellsOf ⟨9, nm, n, x, r⟩).length) := by
  have HW := Lib.hid (fun W => spec_word 12 nm hs W)
  have e : cellsOf ⟨9, nm, n, x, r⟩ = if x = false ∧ r = 0 then varCells (packs nm.data.toList) n else [] := rfl
  rw [e]
  obtain ⟨m, hm⟩ : ∃ m, (packs nm.data.toList).length = m := ⟨_, rfl⟩
  by_cases h1 : m = 1
  · by_cases hy : x = false ∧ r = 0
    · rw [if_pos hy, varCells_count, if_pos (by omega)]
      obtain ⟨rfl, rfl⟩ := hy
      rw [hm] at HW
      by_cases hn : n = 0
      · subst hn
        exact sc_var_ZFZ nm m h1 HW w
      · exact sc_var_NFZ nm n (int_ne hn) m h1 HW w
    · rw [if_neg hy]
      rw [hm] at HW
      rcases four n x r with hn | ⟨rfl, rfl⟩ | ⟨rfl, rfl, hr⟩ | ⟨rfl, rfl, hr⟩
      · cases x with
        | true => exact sc_var_NTV nm n (int_ne hn) r m h1 HW w
        | false => exact sc_var_NFN nm n (int_ne hn) r (nat_ne fun h => hy ⟨rfl, h⟩) m h1 HW w
      · exact sc_var_ZTV nm r m h1 HW w
      · exact sc_var_ZFN nm r (nat_ne hr) m h1 HW w
      · exact absurd ⟨rfl, hr⟩ hy
  · have e0 : (if x = false ∧ r = 0 then varCells (packs nm.data.toList) n else []).length = 0 := by
      split
      · rw [varCells_count, if_neg (by omega)]
      · rfl
    rw [e0]
    rw [hm] at HW
    rcases four n x r with hn | ⟨rfl, rfl⟩ | ⟨rfl, rfl, hr⟩ | ⟨rfl, rfl, rfl⟩
    · exact sc_vno_NVV nm n (int_ne hn) x r m h1 HW w
    · exact sc_vno_ZTV nm r m h1 HW w
    · exact sc_vno_ZFN nm r (nat_ne hr) m h1 HW w
    · exact sc_vno_ZFZ nm m h1 HW w
theorem spec_cellsof (it : It) (hin : ItIn it) (w : World) : Calls Try.prog 81 #[itVal it] w (NewLen w (cellsOf it).length) := by
  have hin2 := hin
  obtain ⟨k, nm, n, x, r⟩ := it
  obtain ⟨-, -, -, -, hr4, hs⟩ := hin2
  by_cases h0 : k = 0
  · subst h0; exact spec_cells_raw nm n x r hr4 w
  by_cases h7 : k = 7
  · subst h7; exact spec_cells_yel nm n x r w
  by_cases h8 : k = 8
  · subst h8; exact spec_cells_green nm n x r w
  by_cases h9 : k = 9
  · subst h9; exact spec_cells_var nm n x r hs w
  by_cases hw : 1 ≤ k ∧ k ≤ 6
  · rw [cells_words (it := ⟨k, nm, n, x, r⟩) hw]
    have hw2 : wordK k = true := decide_eq_true hw
    rcases four n x r with hn | ⟨rfl, rfl⟩ | ⟨rfl, rfl, hr⟩ | ⟨rfl, rfl, rfl⟩
    · rw [if_neg (fun h => hn h.1)]
      exact sc_word_NVV k hw2 nm n (int_ne hn) x r w
    · rw [if_neg (fun h => Bool.noConfusion (h.2.1 : true = false))]
      exact sc_word_ZTV k hw2 nm r w
    · rw [if_neg (fun h => hr h.2.2)]
      exact sc_word_ZFN k hw2 nm r (nat_ne hr) w
    · rw [if_pos ⟨rfl, rfl, rfl⟩, wordCells_len]
      exact sc_word_ZFZ k hw2 nm hs w
  · have e : cellsOf ⟨k, nm, n, x, r⟩ = [] := by
      unfold cellsOf
      rw [if_neg h0, if_neg (by show ¬ (k = 7 ∨ k = 8); omega), if_neg h9, if_neg hw]
    rw [e]
    have hk : ¬ (0 ≤ k ∧ k ≤ 9) := by omega
    rcases four n x r with hn | ⟨rfl, rfl⟩ | ⟨rfl, rfl, hr⟩ | ⟨rfl, rfl, rfl⟩
    · exact sc_else_NVV k hk nm n (int_ne hn) x r w
    · exact sc_else_ZTV k hk nm r w
    · exact sc_else_ZFN k hk nm r (nat_ne hr) w
    · exact sc_else_ZFZ k hk nm w
end Go.Proofs.Ytcddkcejjajlhaa


namespace Go.Proofs.Ytcddkcejjajlhaa
open Go.RowKit

/-- The bytes of a slice that came in. -/
def CodeOk (w : World) (B : Nat) (A : Option Addr) (len : Nat) : Prop :=
  len ≤ 9223372036854775807 ∧ ∀ j, j < len → ∃ ad z, A = some ad ∧ ad.block < B ∧ 0 ≤ z ∧ z ≤ 255 ∧ w.cell? (ad.add j) = some (.int .u8 z)
theorem addr_add_block (a : Addr) (n : Nat) : (a.add n).block = a.block := by unfold Addr.add; split <;> rfl
theorem CodeOk.keep {w w' : World} {B len : Nat} {A : Option Addr} (h : CodeOk w B A len) (hk : ∀ p : Addr, p.block < B → w'.cell? p = w.cell? p) : CodeOk w' B A len :=
  ⟨h.1, fun j hj => by obtain ⟨ad, z, e, hb, h0, h1, hc⟩ := h.2 j hj; exact ⟨ad, z, e, hb, h0, h1, (hk _ (by rw [addr_add_block]; exact hb)).trans hc⟩⟩
theorem CodeOk.more {w : World} {B B' len : Nat} {A : Option Addr} (h : CodeOk w B A len) (hB : B ≤ B') : CodeOk w B' A len :=
  ⟨h.1, fun j hj => by obtain ⟨ad, z, e, hb, r⟩ := h.2 j hj; exact ⟨ad, z, e, by omega, r⟩⟩
theorem CodeOk.below {w w' : World} {B len : Nat} {A : Option Addr} (h : CodeOk w B A len) (hb : Below B w w') : CodeOk w' B A len := h.keep fun _ hp => hb.cell hp

/-- Block g is a cursor. -/
def CurAt (w : World) (g : Nat) : Prop :=
  ∃ (A : Option Addr) (len cap : Nat) (i : Nat) (h : Int), Blk w g 89 #[.slice A len cap, .int .i64 i, .int .i64 h] ∧ i ≤ len ∧ CodeOk w g A len
theorem CurAt.grown {w w' : World} {g : Nat} {row : Option Nat} (h : CurAt w g) (hg : w.grownBy w' row) (hr : ∀ k, row = some k → g < k) : CurAt w' g := by
  obtain ⟨A, len, cap, i, x, hb, hi, hc⟩ := h
  have hlt := hb.lt
  refine ⟨A, len, cap, i, x, hb.grown hg (fun e => by have := hr g e.symm; omega), hi, hc.keep fun p hp => World.cell?_of_block (hg.block p.block (by omega) (fun e => by have := hr _ e.symm; omega))⟩
theorem CurAt.below {w w' : World} {g : Nat} (h : CurAt w g) (hb : Below w.heap.size w w') : CurAt w' g := by
  obtain ⟨A, len, cap, i, x, hk, hi, hc⟩ := h
  exact ⟨A, len, cap, i, x, hk.below hb hk.lt, hi, hc.keep fun p hp => hb.cell (by have := hk.lt; omega)⟩

end Go.Proofs.Ytcddkcejjajlhaa

namespace Go.Proofs.Ytcddkcejjajlhaa
open Go.RowKit

end Go.Proofs.Ytcddkcejjajlhaa

namespace Go.Proofs.Ytcddkcejjajlhaa
open Go.RowKit

end Go.Proofs.Ytcddkcejjajlhaa

namespace Go.Proofs.Ytcddkcejjajlhaa
open Go.RowKit

end Go.Proofs.Ytcddkcejjajlhaa

namespace Go.Proofs.Ytcddkcejjajlhaa
open Go.RowKit Go

end Go.Proofs.Ytcddkcejjajlhaa

namespace Go.Proofs.Ytcddkcejjajlhaa
open Go.RowKit Go

end Go.Proofs.Ytcddkcejjajlhaa

namespace Go.Proofs.Ytcddkcejjajlhaa
open Go.ChangeShapes Go.WideShapes Go.ChangeAt Go.RowKit

end Go.Proofs.Ytcddkcejjajlhaa

namespace Go.Proofs.Ytcddkcejjajlhaa
open Go.RowKit Go

end Go.Proofs.Ytcddkcejjajlhaa

