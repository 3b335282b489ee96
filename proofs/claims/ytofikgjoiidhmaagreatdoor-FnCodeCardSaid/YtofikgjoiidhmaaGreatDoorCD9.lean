/-
  NameOk, of the program and of its model, tells whether a text is a name.
  DefsOk as a plain function.
  Steps as pairs: which are right, and their texts.
  The code of definitions as plain data: steps, places, and that the code is right.
  impl.callsOk.
  Lists of definitions: how large one is, a copy of one, whether two are alike.
  The tree that an op begins, as a limb; what is in one.
  limbOf by cases; whether two ops are alike.
-/
import Derived.Test.YtofikgjoiidhmaaGreatDoorCD1
import Derived.Deep.QuietTactic
import Derived.BigQuiet
import Derived.Test.YtofikgjoiidhmaaGreatDoorCD5
import Derived.Test.YtofikgjoiidhmaaGreatDoorCD2
import Derived.Test.YtofikgjoiidhmaaGreatDoorCD3
import Derived.Lib.ItoaNum
import Derived.Lib.ItoaLen
import Derived.Test.YtofikgjoiidhmaaGreatDoorCD7
import Derived.Test.YtofikgjoiidhmaaGreatDoorCD4
import Derived.Handy
import Derived.IntWalk
import Derived.Deep.RegionHeld3
import Derived.Laws.StructEq
namespace Go.Proofs.YtofikgjoiidhmaaGreatDoor
open Go.RowKit

set_option maxHeartbeats 1000000 in
theorem spec_nameok (s : ByteArray) (hs : s.size ≤ 4611686018427387904) (w : World) : Calls Tryz.prog 34 #[.string s] w fun e w' => e = .returned (.bool (nameOk s)) ∧ w = w' := by
  have HI := Lib.hid (in_any (s.size : Int) 1 24 w)
  by_cases h : 1 ≤ s.size ∧ s.size ≤ 24
  · have hb := Lib.hid (inB_true (x := (s.size : Int)) (a := 1) (b := 24) (by omega) (by omega))
    obtain ⟨v, hv⟩ : ∃ v, nameOk s = v := ⟨_, rfl⟩
    have HY : Hid ((∀ (i : Nat) (h : i < s.size), nameByte s[i] = true) → v = true) := Lib.hid fun h2 => hv ▸ nameOk_yes h.1 h.2 h2
    have HN : Hid (∀ (i : Nat) (h : i < s.size), nameByte s[i] = false → v = false) := Lib.hid fun i hi h2 => hv ▸ nameOk_no hi h2
    rw [hv]
    have h24 := h.2
    clear h hv
    go_enter Tryz.func34, Tryz.ntmps34
    go_wp2_with fail
    refine HI.out.mono ?_
    rintro e w' ⟨he, rfl⟩
    rw [hb.out] at he
    subst he
    go_wp2_with fail
    go_loop [3] (fun i => ∃ k : Nat, k ≤ s.size ∧ i = .int .i64 k ∧ Hid (∀ (j : Nat) (hj : j < s.size), j < k → nameByte s[j] = true)) (fun i => s.size - (intOf i).toNat)
    case atStart => exact ⟨0, by omega, rfl, Lib.hid fun j _ h => by omega⟩
    case round =>
      obtain ⟨k, hk, rfl, HK⟩ := hrel
      by_cases hlt : k < s.size
      · have hck := u8_le s[k]
        have hr := letOf_range s[k]
        have HL : Hid (∀ W, Calls Tryz.prog 77 #[.int .u8 (s[k].toNat : Int)] W fun e w' => e = .returned (.int .i64 (letOf s[k])) ∧ W = w') := Lib.hid fun W => spec_letterof s[k] W
        have HQ : Hid (nameByte s[k] = decide (1 ≤ letOf s[k])) := Lib.hid rfl
        obtain ⟨x, hx⟩ : ∃ x, letOf s[k] = x := ⟨_, rfl⟩
        rw [hx] at hr HL HQ
        clear hx
        obtain ⟨hr0, hr1⟩ := hr
        by_cases he : x < 1
        · have HV := Lib.hid (HN.out k hlt (by rw [HQ.out]; simpa using he))
          go_wp2_with fail
          refine (HL.out _).mono ?_
          rintro e w' ⟨rfl, rfl⟩
          go_wp2_with fail
          go_ret
          exact ⟨by rw [HV.out]; rfl, rfl⟩
        · have HK2 : Hid (∀ (j : Nat) (hj : j < s.size), j < k + 1 → nameByte s[j] = true) := Lib.hid fun j hj h => by
            rcases Nat.lt_or_ge j k with h2 | h2
            · exact HK.out j hj h2
            · obtain rfl : j = k := by omega
              rw [HQ.out]
              simp; omega
          go_wp2_with fail
          refine (HL.out _).mono ?_
          rintro e w' ⟨rfl, rfl⟩
          go_wp2_with fail
          go_round
          case rel => exact ⟨k + 1, by omega, by go_num, HK2⟩
          case measure => simp [intOf]; omega
      · have HV := Lib.hid (HY.out fun j hj => HK.out j hj (by omega))
        go_wp2
        go_ret
        exact ⟨by rw [HV.out]; rfl, rfl⟩
  · rw [nameOk_size h]
    have hb := Lib.hid (inB_false (x := (s.size : Int)) (a := 1) (b := 24) (by omega))
    clear h
    go_enter Tryz.func34, Tryz.ntmps34
    go_wp2_with fail
    refine HI.out.mono ?_
    rintro e w' ⟨he, rfl⟩
    rw [hb.out] at he
    subst he
    go_wp2_with fail
    go_ret
    exact ⟨rfl, rfl⟩

set_option maxHeartbeats 1000000 in
theorem impl_nameok (s : ByteArray) (hs : s.size ≤ 4611686018427387904) (w : World) : Calls Tryz.prog 71 #[.string s] w fun e w' => e = .returned (.bool (nameOk s)) ∧ w = w' := by
  obtain ⟨v, hv⟩ : ∃ v, nameOk s = v := ⟨_, rfl⟩
  have HY : Hid (1 ≤ s.size → s.size ≤ 24 → (∀ (i : Nat) (h : i < s.size), nameByte s[i] = true) → v = true) := Lib.hid fun h0 h1 h2 => hv ▸ nameOk_yes h0 h1 h2
  have HN : Hid (∀ (i : Nat) (h : i < s.size), nameByte s[i] = false → v = false) := Lib.hid fun i hi h2 => hv ▸ nameOk_no hi h2
  have HZ : Hid (¬ (1 ≤ s.size ∧ s.size ≤ 24) → v = false) := Lib.hid fun h => hv ▸ nameOk_size h
  rw [hv]
  clear hv
  go_enter Tryz.func71, Tryz.ntmps71
  go_wp2_with fail
  refine wp_scope_jumps 0 (fun a' w' => w' = w ∧ v = false ∧ ∃ u0 u1 u2 u3 u4 u5 u6 u7 u8 u9 u10 u11 u12 u13 u14 u15 u16 u17 u18 u19 u20 u21 u22 u23 u24 u25 u26 u27 : Value, a' = { tmps := #[u0, u1, u2, u3, u4, u5, u6, u7, u8, u9, u10, u11, u12, u13, u14, u15, u16, u17, u18, u19, u20, u21, u22, u23, u24, u25, u26, u27], defers := [] }) (fun _ _ => 0) rfl ?_ ?_
  · by_cases h0 : s.size = 0
    · obtain rfl : s = ⟨#[]⟩ := by
        apply ByteArray.ext
        apply Array.ext'
        exact List.length_eq_zero_iff.1 (by simpa using h0)
      have HV := HZ.out (by omega)
      clear h0 hs HY HN HZ
      go_wp2
      go_step3
      exact ⟨rfl, rfl, HV, _, _, _, _, _, _, _, _, _, _, _, _, _, _, _, _, _, _, _, _, _, _, _, _, _, _, _, _, rfl⟩
    · have e1 : s.toList.isEmpty = false := by
        rw [ByteArray.toList_eq]
        simp
        intro h
        exact h0 (by show s.data.size = 0; rw [h]; rfl)
      by_cases h : s.size ≤ 24
      · have HY2 := Lib.hid (HY.out (by omega) h)
        have h1 : 0 < s.size := by omega
        clear h0 HZ HY
        go_wp2_with fail
        go_loop [13] (fun i => ∃ k : Nat, k ≤ s.size ∧ i = .int .i64 k ∧ Hid (∀ (j : Nat) (hj : j < s.size), j < k → nameByte s[j] = true)) (fun i => s.size - (intOf i).toNat)
        case atStart => exact ⟨0, by omega, rfl, Lib.hid fun j _ h => by omega⟩
        case round =>
          obtain ⟨k, hk, rfl, HK⟩ := hrel
          by_cases hlt : k < s.size
          · have hck := u8_le s[k]
            have hr := letOf_range s[k]
            have HL : Hid (∀ W, Calls Tryz.prog 133 #[.int .u8 (s[k].toNat : Int)] W fun e w' => e = .returned (.int .i64 (letOf s[k])) ∧ W = w') := Lib.hid fun W => impl_letterof s[k] W
            have HQ : Hid (nameByte s[k] = decide (1 ≤ letOf s[k])) := Lib.hid rfl
            have HB : Hid (s[k] = 32 → letOf s[k] = 0) := Lib.hid fun h => by rw [h]; exact letOf_blank
            have HB2 : Hid (letOf s[k] = 0 → s[k] = 32) := Lib.hid letOf_zero
            obtain ⟨x, hx⟩ : ∃ x, letOf s[k] = x := ⟨_, rfl⟩
            rw [hx] at hr HL HQ HB HB2
            clear hx
            obtain ⟨hr0, hr1⟩ := hr
            by_cases he : x < 0
            · have HV := Lib.hid (HN.out k hlt (by rw [HQ.out]; simp; omega))
              go_wp2_with fail
              refine (HL.out _).mono ?_
              rintro e w' ⟨rfl, rfl⟩
              go_wp2_with fail
              go_step3
              exact ⟨rfl, rfl, HV.out, _, _, _, _, _, _, _, _, _, _, _, _, _, _, _, _, _, _, _, _, _, _, _, _, _, _, _, _, rfl⟩
            · by_cases hb : s[k] = 32
              · have hb' : ((s[k].toNat : Int) == 32) = true := by rw [hb]; rfl
                have HV := Lib.hid (HN.out k hlt (by rw [HQ.out, HB.out hb]; rfl))
                have he2 : 0 ≤ x := by omega
                clear hb he
                go_wp2_with fail
                refine (HL.out _).mono ?_
                rintro e w' ⟨rfl, rfl⟩
                go_wp2_with fail
                go_step3
                exact ⟨rfl, rfl, HV.out, _, _, _, _, _, _, _, _, _, _, _, _, _, _, _, _, _, _, _, _, _, _, _, _, _, _, _, _, rfl⟩
              · have hb' : ((s[k].toNat : Int) == 32) = false := u8_ne (b := 32) hb
                have hx1 : 1 ≤ x := by
                  rcases Int.lt_or_le x 1 with h2 | h2
                  · exact absurd (HB2.out (by omega)) hb
                  · exact h2
                have HK2 : Hid (∀ (j : Nat) (hj : j < s.size), j < k + 1 → nameByte s[j] = true) := Lib.hid fun j hj h => by
                  rcases Nat.lt_or_ge j k with h2 | h2
                  · exact HK.out j hj h2
                  · obtain rfl : j = k := by omega
                    rw [HQ.out]
                    simp; omega
                clear hb he
                go_wp2_with fail
                refine (HL.out _).mono ?_
                rintro e w' ⟨rfl, rfl⟩
                go_wp2_with fail
                go_round
                case rel => exact ⟨k + 1, by omega, by go_num, HK2⟩
                case measure => simp [intOf]; omega
          · have HV := Lib.hid (HY2.out fun j hj => HK.out j hj (by omega))
            go_wp2
            simp only [Exit.jump]
            go_ret
            exact ⟨by rw [HV.out]; rfl, rfl⟩
      · have HV := Lib.hid (HZ.out (by omega))
        clear h0 HY HN HZ
        go_wp2_with fail
        go_step3
        exact ⟨rfl, rfl, HV.out, _, _, _, _, _, _, _, _, _, _, _, _, _, _, _, _, _, _, _, _, _, _, _, _, _, _, _, _, rfl⟩
  · rintro a' w' ⟨rfl, rfl, u0, u1, u2, u3, u4, u5, u6, u7, u8, u9, u10, u11, u12, u13, u14, u15, u16, u17, u18, u19, u20, u21, u22, u23, u24, u25, u26, u27, rfl⟩
    go_wp2_with fail
    simp only [Exit.jump]
    go_ret
    exact ⟨rfl, rfl⟩
end Go.Proofs.YtofikgjoiidhmaaGreatDoor

namespace Go.Proofs.YtofikgjoiidhmaaGreatDoor
open Go.RowKit Go

/-- A call of one of n definitions, or no call. -/
def okC (n : Nat) (o : Int × Int) : Bool := !(decide (o.1 = 2) && decide ((n : Int) ≤ o.2))
def okDf (n : Nat) (d : Df) : Bool := nameOk d.1 && (shapeB d.2 && d.2.all (okC n))
/-- Definitions as they must be. -/
def okDefs (ds : List Df) : Bool := decide (ds.length ≤ 24) && ds.all (okDf ds.length)
theorem okDefs_not {ds : List Df} {i : Nat} (hi : i < ds.length) (h : okDf ds.length ds[i] = false) : okDefs ds = false := by
  unfold okDefs
  have : ds.all (okDf ds.length) = false := by
    cases hh : ds.all (okDf ds.length) with
    | false => rfl
    | true => rw [List.all_eq_true] at hh; rw [hh _ (List.getElem_mem hi)] at h; cases h
  rw [this, Bool.and_false]
theorem okDefs_all {ds : List Df} (hl : ds.length ≤ 24) (h : (ds.take ds.length).all (okDf ds.length) = true) : okDefs ds = true := by
  rw [List.take_length] at h
  unfold okDefs
  rw [h]
  simp [hl]
theorem all_step {α : Type} {p : α → Bool} {xs : List α} {i : Nat} (hi : i < xs.length) (h : (xs.take i).all p = true) (h2 : p xs[i] = true) : (xs.take (i + 1)).all p = true := by
  rw [List.take_succ_eq_append_getElem hi, List.all_append, h, Bool.true_and, List.all_cons, h2]
  rfl
theorem all_not {α : Type} {p : α → Bool} {xs : List α} {i : Nat} (hi : i < xs.length) (h2 : p xs[i] = false) : xs.all p = false := by
  cases hh : xs.all p with
  | false => rfl
  | true => rw [List.all_eq_true] at hh; rw [hh _ (List.getElem_mem hi)] at h2; cases h2
end Go.Proofs.YtofikgjoiidhmaaGreatDoor

namespace Go.Proofs.YtofikgjoiidhmaaGreatDoor
open Go.RowKit Go

/-- A step as it may be in code of m steps. -/
def okIn (m : Int) (o : Int × Int) : Bool :=
  if o.1 = 0 then decide (-2147483648 ≤ o.2 ∧ o.2 ≤ 2147483647)
  else if o.1 = 1 then decide (0 ≤ o.2 ∧ o.2 ≤ 23)
  else if o.1 = 2 ∨ o.1 = 3 ∨ o.1 = 4 ∨ o.1 = 5 ∨ o.1 = 7 then decide (0 ≤ o.2 ∧ o.2 < m)
  else if o.1 = 6 ∨ o.1 = 8 ∨ o.1 = 9 then decide (o.2 = 0) else false
/-- Code as it must be. -/
def codeOk (xs : List (Int × Int)) : Bool := decide (1 ≤ xs.length ∧ xs.length ≤ 1500) && (decide ((xs[xs.length - 1]?.getD (0, 0)).1 = 9) && xs.all (okIn xs.length))
theorem codeOk_len {xs : List (Int × Int)} (h : ¬ (1 ≤ xs.length ∧ xs.length ≤ 1500)) : codeOk xs = false := by unfold codeOk; rw [decide_eq_false h]; rfl
theorem codeOk_last {xs : List (Int × Int)} (h : (xs[xs.length - 1]?.getD (0, 0)).1 ≠ 9) : codeOk xs = false := by unfold codeOk; rw [decide_eq_false h]; simp
theorem codeOk_not {xs : List (Int × Int)} {i : Nat} (hi : i < xs.length) (h : okIn xs.length xs[i] = false) : codeOk xs = false := by unfold codeOk; rw [all_not hi h]; simp
theorem codeOk_all {xs : List (Int × Int)} (h1 : 1 ≤ xs.length ∧ xs.length ≤ 1500) (h2 : (xs[xs.length - 1]?.getD (0, 0)).1 = 9) (h : (xs.take xs.length).all (okIn xs.length) = true) : codeOk xs = true := by
  rw [List.take_length] at h
  unfold codeOk
  rw [h, decide_eq_true h1, decide_eq_true h2]
  rfl
theorem codeOk_parts {xs : List (Int × Int)} (h : codeOk xs = true) : (1 ≤ xs.length ∧ xs.length ≤ 1500) ∧ (xs[xs.length - 1]?.getD (0, 0)).1 = 9 ∧ ∀ o ∈ xs, okIn xs.length o = true := by
  unfold codeOk at h
  simp only [Bool.and_eq_true, decide_eq_true_eq, List.all_eq_true] at h
  exact ⟨h.1, h.2.1, h.2.2⟩
/-- The words of steps, by kind. -/
def insL : List ByteArray := [⟨#[108, 105, 116, 32]⟩, ⟨#[100, 111, 32]⟩, ⟨#[99, 97, 108, 108, 32]⟩, ⟨#[106, 117, 109, 112, 32]⟩, ⟨#[122, 101, 114, 111, 32]⟩, ⟨#[112, 111, 115, 32]⟩, ⟨#[102, 111, 114]⟩, ⟨#[110, 101, 120, 116, 32]⟩, ⟨#[114, 101, 116]⟩, ⟨#[101, 110, 100]⟩]
/-- The text of a step. -/
def insTx (o : Int × Int) : ByteArray :=
  if o.1 = 1 then (if 0 ≤ o.2 ∧ o.2 ≤ 23 then ⟨#[100, 111, 32]⟩ ++ primN o.2 else ⟨#[]⟩)
  else if o.1 = 6 then ⟨#[102, 111, 114]⟩ else if o.1 = 8 then ⟨#[114, 101, 116]⟩ else if o.1 = 9 then ⟨#[101, 110, 100]⟩
  else if 0 ≤ o.1 ∧ o.1 ≤ 7 then insL.getD o.1.toNat ⟨#[]⟩ ++ ⟨(Lib.itoa o.2).toArray⟩ else ⟨#[]⟩
theorem primN_size2 (k : Int) : (primN k).size ≤ 10 := by
  unfold primN
  split
  · obtain ⟨n, hn⟩ : ∃ n, k.toNat = n := ⟨_, rfl⟩
    rw [hn]
    have : n < 24 := by omega
    clear hn
    match n, this with
    | 0, _ | 1, _ | 2, _ | 3, _ | 4, _ | 5, _ | 6, _ | 7, _ | 8, _ | 9, _ | 10, _ | 11, _ | 12, _ | 13, _ | 14, _ | 15, _ | 16, _ | 17, _ | 18, _ | 19, _ | 20, _ | 21, _ | 22, _ | 23, _ => decide
    | n + 24, h => omega
  · decide
theorem insL_size (n : Nat) : (insL.getD n ⟨#[]⟩).size ≤ 5 := by
  match n with
  | 0 | 1 | 2 | 3 | 4 | 5 | 6 | 7 | 8 | 9 => decide
  | n + 10 => simp [insL]; decide
theorem insTx_size {o : Int × Int} (h0 : -9223372036854775808 ≤ o.2) (h1 : o.2 ≤ 9223372036854775807) : (insTx o).size ≤ 40 := by
  unfold insTx
  have h2 := Lib.itoa_length_le o.2 (by omega) (by omega)
  have h3 : ByteArray.size ⟨(Lib.itoa o.2).toArray⟩ ≤ 21 := by show (Lib.itoa o.2).toArray.size ≤ _; simp; omega
  have h4 := primN_size2 o.2
  have h5 := insL_size o.1.toNat
  split
  · split
    · rw [ByteArray.size_append]
      have : ByteArray.size ⟨#[100, 111, 32]⟩ = 3 := rfl
      omega
    · decide
  · split
    · decide
    · split
      · decide
      · split
        · decide
        · split
          · rw [ByteArray.size_append]; omega
          · decide
/-- A line of a listing. -/
def lineL (at_ : Nat) (o : Int × Int) : List UInt8 := Lib.itoa (at_ : Int) ++ 32 :: ((insTx o).data.toList ++ [10])
/-- The lines of a listing, from place a on. -/
def linesL : Nat → List (Int × Int) → List (List UInt8)
  | _, [] => []
  | a, o :: r => lineL a o :: linesL (a + 1) r
theorem linesL_len (a : Nat) (xs : List (Int × Int)) : (linesL a xs).length = xs.length := by
  induction xs generalizing a with
  | nil => rfl
  | cons o r ih => simp only [linesL, List.length_cons, ih]
theorem linesL_get {a i : Nat} {xs : List (Int × Int)} (h : i < xs.length) : (linesL a xs)[i]? = some (lineL (a + i) xs[i]) := by
  induction xs generalizing a i with
  | nil => simp at h
  | cons o r ih =>
    cases i with
    | zero => simp [linesL]
    | succ i =>
      have := ih (a := a + 1) (i := i) (by simpa using h)
      simp only [linesL, List.getElem?_cons_succ, List.getElem_cons_succ, this]
      rw [show a + 1 + i = a + (i + 1) by omega]
theorem linesL_take {a i : Nat} {xs : List (Int × Int)} (h : i < xs.length) : linesL a (xs.take (i + 1)) = linesL a (xs.take i) ++ [lineL (a + i) xs[i]] := by
  induction xs generalizing a i with
  | nil => simp at h
  | cons o r ih =>
    cases i with
    | zero => simp [linesL]
    | succ i =>
      have := ih (a := a + 1) (i := i) (by simpa using h)
      simp only [List.take_succ_cons, linesL, this, List.cons_append, List.getElem_cons_succ]
      rw [show a + 1 + i = a + (i + 1) by omega]
/-- What Listing tells. -/
def listTx (xs : List (Int × Int)) : ByteArray := if codeOk xs = true then ⟨(linesL 0 xs).flatten.toArray⟩ else ⟨#[]⟩
end Go.Proofs.YtofikgjoiidhmaaGreatDoor

namespace Go.Proofs.YtofikgjoiidhmaaGreatDoor
open Go.RowKit Go

/-- The steps of bodies, one behind the other. -/
def codesL (tail : Bool) : Nat → List (List Tr) → List Cd
  | _, [] => []
  | a, ts :: r => codeL tail false a ts ++ codesL tail (a + wideL tail false ts) r
/-- The places where they begin. -/
def startsL (tail : Bool) : Nat → List (List Tr) → List Nat
  | _, [] => []
  | a, ts :: r => a :: startsL tail (a + wideL tail false ts) r
def widesL (tail : Bool) : List (List Tr) → Nat
  | [] => 0
  | ts :: r => wideL tail false ts + widesL tail r
theorem startsL_len (tail : Bool) (a : Nat) (tss : List (List Tr)) : (startsL tail a tss).length = tss.length := by
  induction tss generalizing a with
  | nil => rfl
  | cons ts r ih => simp only [startsL, List.length_cons, ih]
theorem codesL_app (tail : Bool) (a : Nat) (xs ys : List (List Tr)) : codesL tail a (xs ++ ys) = codesL tail a xs ++ codesL tail (a + widesL tail xs) ys := by
  induction xs generalizing a with
  | nil => simp [codesL, widesL]
  | cons ts r ih => simp only [List.cons_append, codesL, widesL, ih, List.append_assoc, Nat.add_assoc]
theorem startsL_app (tail : Bool) (a : Nat) (xs ys : List (List Tr)) : startsL tail a (xs ++ ys) = startsL tail a xs ++ startsL tail (a + widesL tail xs) ys := by
  induction xs generalizing a with
  | nil => simp [startsL, widesL]
  | cons ts r ih => simp only [List.cons_append, startsL, widesL, ih, Nat.add_assoc]
theorem widesL_app (tail : Bool) (xs ys : List (List Tr)) : widesL tail (xs ++ ys) = widesL tail xs + widesL tail ys := by
  induction xs with
  | nil => simp [widesL]
  | cons ts r ih => simp only [List.cons_append, widesL, ih, Nat.add_assoc]
theorem codesL_len (tail : Bool) (tss : List (List Tr)) (h : ∀ ts ∈ tss, lfL ts = true) (a : Nat) : (codesL tail a tss).length = widesL tail tss := by
  induction tss generalizing a with
  | nil => rfl
  | cons ts r ih => rw [codesL, widesL, List.length_append, codeL_len ts (h ts (List.mem_cons_self ..)), ih (fun t ht => h t (List.mem_cons_of_mem _ ht))]
mutual
theorem wideT_flat : ∀ (t : Tr) (tail pc : Bool), t.lf = true → wideT tail pc t ≤ (flatT t).length
  | .mk k n c, tail, pc, h => by
    rw [Tr.lf] at h
    by_cases h3 : k = 3 ∨ k = 4 ∨ k = 6
    · rw [if_pos h3] at h
      have := wideL_flat c tail false h
      rw [flatT_nest h3, wideT, if_neg (by omega)]
      simp only [List.length_cons, List.length_append, List.length_nil]
      split <;> omega
    · rw [if_neg h3, Bool.and_eq_true, decide_eq_true_eq, List.isEmpty_iff] at h
      obtain ⟨hk, rfl⟩ := h
      rw [flatT_leaf h3, wideT]
      simp only [wideL, List.length_singleton]
      split
      · split <;> omega
      · rw [if_neg (by omega)]
        omega
theorem wideL_flat : ∀ (xs : List Tr) (tail pc : Bool), lfL xs = true → wideL tail pc xs ≤ (flatL xs).length
  | [], tail, pc, h => by simp [wideL]
  | t :: r, tail, pc, h => by
    rw [lfL, Bool.and_eq_true] at h
    have := wideT_flat t tail pc h.1
    have := wideL_flat r tail (decide (t.k = 2)) h.2
    rw [wideL, flatL, List.length_append]
    omega
end
theorem widesL_le (tail : Bool) (tss : List (List Tr)) (c : Nat) (h : ∀ ts ∈ tss, lfL ts = true ∧ (flatL ts).length ≤ c) : widesL tail tss ≤ tss.length * c := by
  induction tss with
  | nil => simp [widesL]
  | cons ts r ih =>
    have h1 := h ts (List.mem_cons_self ..)
    have h2 := wideL_flat ts tail false h1.1
    have h3 := ih (fun t ht => h t (List.mem_cons_of_mem _ ht))
    rw [widesL, List.length_cons, Nat.add_mul]
    omega
/-- The trees of definitions' bodies. -/
inductive TreesOf2 : List Df → List (List Tr) → Prop
  | nil : TreesOf2 [] []
  | cons (d : Df) (ds : List Df) (ts : List Tr) (tss : List (List Tr)) (g : Grows d.2 ts []) (h : TreesOf2 ds tss) : TreesOf2 (d :: ds) (ts :: tss)
theorem TreesOf2.len {ds : List Df} {tss : List (List Tr)} (h : TreesOf2 ds tss) : tss.length = ds.length := by
  induction h with
  | nil => rfl
  | cons d ds ts tss g h ih => simp only [List.length_cons, ih]
theorem TreesOf2.get {ds : List Df} {tss : List (List Tr)} (h : TreesOf2 ds tss) : ∀ {i : Nat} (hi : i < ds.length), ∃ ts, tss[i]? = some ts ∧ Grows ds[i].2 ts [] := by
  induction h with
  | nil => intro i hi; simp at hi
  | cons d ds ts tss g h ih =>
    intro i hi
    cases i with
    | zero => exact ⟨ts, rfl, g⟩
    | succ i => exact ih (i := i) (by simpa using hi)
theorem TreesOf2.mem {ds : List Df} {tss : List (List Tr)} (h : TreesOf2 ds tss) {ts : List Tr} (ht : ts ∈ tss) : ∃ d ∈ ds, Grows d.2 ts [] := by
  induction h with
  | nil => cases ht
  | cons d ds ts2 tss g h ih =>
    rcases List.mem_cons.1 ht with rfl | ht
    · exact ⟨d, List.mem_cons_self .., g⟩
    · obtain ⟨d2, h1, h2⟩ := ih ht
      exact ⟨d2, List.mem_cons_of_mem _ h1, h2⟩
theorem okDf_shape {n : Nat} {d : Df} (h : okDf n d = true) : shapeB d.2 = true ∧ d.2.all (okC n) = true := by
  unfold okDf at h
  simp only [Bool.and_eq_true] at h
  exact h.2
theorem trees_of2 {n : Nat} : ∀ (ds : List Df), (∀ d ∈ ds, okDf n d = true) → ∃ tss, TreesOf2 ds tss
  | [], _ => ⟨[], .nil⟩
  | d :: r, h => by
    obtain ⟨tss, h1⟩ := trees_of2 r (fun e he => h e (List.mem_cons_of_mem _ he))
    obtain ⟨ts, g⟩ := shape_grows (okDf_shape (h d (List.mem_cons_self ..))).1
    exact ⟨ts :: tss, .cons d r ts tss g h1⟩
theorem okDefs_each {ds : List Df} (h : okDefs ds = true) : ds.length ≤ 24 ∧ ∀ d ∈ ds, okDf ds.length d = true := by
  unfold okDefs at h
  simp only [Bool.and_eq_true, decide_eq_true_eq, List.all_eq_true] at h
  exact h
theorem okDefs_trees {ds : List Df} (h : okDefs ds = true) : ∃ tss, TreesOf2 ds tss := trees_of2 ds (okDefs_each h).2
/-- The number that a start's number stands for. -/
def startI (l : List Nat) (k : Nat) : Int := ((l[k]?.getD 0 : Nat) : Int)
/-- The code of definitions whose bodies have these trees. -/
def codeV (tail : Bool) (tss : List (List Tr)) : List (Int × Int) := (codesL tail 0 tss).map (resC (startI (startsL tail 0 tss))) ++ [(9, 0)]
/-- A step of the code in the making that may be, where there are D definitions and places up to top. -/
def CdOk (D top : Nat) (c : Cd) : Prop :=
  match c.2 with
  | .inl n => (c.1 = 0 ∧ -2147483648 ≤ n ∧ n ≤ 2147483647) ∨ (c.1 = 1 ∧ 0 ≤ n ∧ n ≤ 23) ∨ ((c.1 = 4 ∨ c.1 = 5 ∨ c.1 = 7) ∧ 0 ≤ n ∧ n ≤ top) ∨ ((c.1 = 6 ∨ c.1 = 8) ∧ n = 0)
  | .inr k => (c.1 = 2 ∨ c.1 = 3) ∧ k < D
theorem CdOk.mono {D a b : Nat} {c : Cd} (h : CdOk D a c) (hab : a ≤ b) : CdOk D b c := by
  obtain ⟨o, n⟩ := c
  cases n with
  | inl n =>
    simp only [CdOk] at h ⊢
    omega
  | inr k => exact h
/-- What ops must be. -/
def OpFit (D : Nat) (o : Int × Int) : Prop := okOp o = true ∧ (-2147483648 ≤ o.2 ∧ o.2 ≤ 2147483647) ∧ okC D o = true
mutual
theorem codeT_ok (D : Nat) : ∀ (t : Tr) (tail pc nx : Bool) (a : Nat), t.lf = true → (∀ o ∈ flatT t, OpFit D o) → ∀ c ∈ codeT tail pc nx a t, CdOk D (a + wideT tail pc t) c
  | .mk k n cs, tail, pc, nx, a, h, hf => by
    rw [Tr.lf] at h
    by_cases h3 : k = 3 ∨ k = 4 ∨ k = 6
    · rw [if_pos h3] at h
      have ih := codeL_ok D cs tail false (a + 1) h (fun o ho => hf o (by rw [flatT_nest h3]; simp [ho]))
      rw [wideT, if_neg (by omega)]
      rcases h3 with rfl | rfl | rfl
      · intro c hc
        simp [codeT] at hc
        rcases hc with rfl | hc
        · simp [CdOk]; omega
        · exact (ih c hc).mono (by simp; omega)
      · intro c hc
        simp [codeT] at hc
        rcases hc with rfl | hc
        · simp [CdOk]; omega
        · exact (ih c hc).mono (by simp; omega)
      · intro c hc
        simp [codeT] at hc
        rcases hc with rfl | hc | rfl
        · simp [CdOk]
        · exact (ih c hc).mono (by simp; omega)
        · simp [CdOk]; omega
    · rw [if_neg h3, Bool.and_eq_true, decide_eq_true_eq, List.isEmpty_iff] at h
      obtain ⟨hk, rfl⟩ := h
      have ho := hf (k, n) (by rw [flatT_leaf h3]; simp)
      obtain ⟨h1, h2, h4⟩ := ho
      simp only at h2
      rcases hk with rfl | rfl | rfl | rfl
      · intro c hc
        simp [codeT] at hc
        subst hc
        simp [CdOk]; omega
      · intro c hc
        simp [codeT] at hc
        subst hc
        simp [okOp] at h1
        simp [CdOk]; omega
      · intro c hc
        simp [codeT] at hc
        subst hc
        simp [okOp] at h1
        simp [okC] at h4
        simp only [CdOk]
        refine ⟨?_, by omega⟩
        split <;> simp
      · intro c hc
        have : c = (8, .inl 0) := by
          rw [codeT] at hc
          simp at hc
          exact hc.2
        subst this
        simp [CdOk]
theorem codeL_ok (D : Nat) : ∀ (xs : List Tr) (tail pc : Bool) (a : Nat), lfL xs = true → (∀ o ∈ flatL xs, OpFit D o) → ∀ c ∈ codeL tail pc a xs, CdOk D (a + wideL tail pc xs) c
  | [], tail, pc, a, h, hf => by simp [codeL]
  | t :: r, tail, pc, a, h, hf => by
    rw [lfL, Bool.and_eq_true] at h
    rw [codeL, wideL]
    intro c hc
    rcases List.mem_append.1 hc with hc | hc
    · exact (codeT_ok D t tail pc (exitB r) a h.1 (fun o ho => hf o (by rw [flatL]; exact List.mem_append_left _ ho)) c hc).mono (by omega)
    · exact (codeL_ok D r tail (decide (t.k = 2)) _ h.2 (fun o ho => hf o (by rw [flatL]; exact List.mem_append_right _ ho)) c hc).mono (by omega)
end
theorem codesL_ok (D : Nat) (tail : Bool) (tss : List (List Tr)) (h : ∀ ts ∈ tss, lfL ts = true ∧ ∀ o ∈ flatL ts, OpFit D o) (a : Nat) : ∀ c ∈ codesL tail a tss, CdOk D (a + widesL tail tss) c := by
  induction tss generalizing a with
  | nil => intro c hc; simp [codesL] at hc
  | cons ts r ih =>
    intro c hc
    rw [codesL] at hc
    rw [widesL]
    have h1 := h ts (List.mem_cons_self ..)
    rcases List.mem_append.1 hc with hc | hc
    · exact (codeL_ok D ts tail false a h1.1 h1.2 c hc).mono (by omega)
    · exact (ih (fun t ht => h t (List.mem_cons_of_mem _ ht)) _ c hc).mono (by omega)
theorem startsL_mem (tail : Bool) (tss : List (List Tr)) (a : Nat) : ∀ s ∈ startsL tail a tss, a ≤ s ∧ s ≤ a + widesL tail tss := by
  induction tss generalizing a with
  | nil => intro s hs; simp [startsL] at hs
  | cons ts r ih =>
    intro s hs
    rw [startsL] at hs
    rw [widesL]
    rcases List.mem_cons.1 hs with rfl | hs
    · omega
    · have := ih _ s hs; omega
theorem startsL_mono (tail : Bool) (tss : List (List Tr)) (a : Nat) : ∀ i (hi : i + 1 < (startsL tail a tss).length), (startsL tail a tss)[i] ≤ (startsL tail a tss)[i + 1] := by
  induction tss generalizing a with
  | nil => intro i hi; simp [startsL] at hi
  | cons ts r ih =>
    intro i hi
    simp only [startsL] at hi ⊢
    cases i with
    | zero =>
      simp only [List.getElem_cons_zero, List.getElem_cons_succ]
      exact Nat.le_trans (Nat.le_add_right _ _) (startsL_mem tail r _ _ (List.getElem_mem _)).1
    | succ i =>
      simp only [List.getElem_cons_succ]
      exact ih _ i (by simpa using hi)
/-- What definitions that are right and their trees have in common. -/
structure MadeC (ds : List Df) (tss : List (List Tr)) : Prop where
  of : TreesOf2 ds tss
  each : ∀ ts ∈ tss, lfL ts = true ∧ (flatL ts).length ≤ 60 ∧ ∀ o ∈ flatL ts, OpFit ds.length o
  few : tss.length ≤ 24
theorem made_of {ds : List Df} {tss : List (List Tr)} (hok : okDefs ds = true) (hr : ∀ d ∈ ds, ∀ o ∈ d.2, -2147483648 ≤ o.2 ∧ o.2 ≤ 2147483647) (h : TreesOf2 ds tss) : MadeC ds tss := by
  obtain ⟨h1, h2⟩ := okDefs_each hok
  refine ⟨h, fun ts ht => ?_, by rw [h.len]; exact h1⟩
  obtain ⟨d, hd, g⟩ := h.mem ht
  obtain ⟨hs, hc⟩ := okDf_shape (h2 d hd)
  have hf := g.flat
  rw [List.append_nil] at hf
  unfold shapeB at hs
  simp only [Bool.and_eq_true, decide_eq_true_eq] at hs
  refine ⟨(g.lf hs.2.1).1, by rw [← hf]; exact hs.1, fun o ho => ?_⟩
  rw [← hf] at ho
  exact ⟨List.all_eq_true.1 hs.2.1 o ho, hr d hd o ho, List.all_eq_true.1 hc o ho⟩
theorem MadeC.wide {ds : List Df} {tss : List (List Tr)} (h : MadeC ds tss) (tail : Bool) : widesL tail tss ≤ 1440 := by
  have := widesL_le tail tss 60 (fun ts ht => ⟨(h.each ts ht).1, (h.each ts ht).2.1⟩)
  have := h.few
  omega
theorem MadeC.len {ds : List Df} {tss : List (List Tr)} (h : MadeC ds tss) (tail : Bool) : (codeV tail tss).length = widesL tail tss + 1 := by
  unfold codeV
  rw [List.length_append, List.length_map, codesL_len tail tss (fun ts ht => (h.each ts ht).1)]
  rfl
theorem startI_lt {tail : Bool} {tss : List (List Tr)} {k : Nat} (h : k < tss.length) : 0 ≤ startI (startsL tail 0 tss) k ∧ startI (startsL tail 0 tss) k ≤ widesL tail tss := by
  unfold startI
  have hk : k < (startsL tail 0 tss).length := by rw [startsL_len]; exact h
  rw [List.getElem?_eq_getElem hk]
  have := startsL_mem tail tss 0 _ (List.getElem_mem hk)
  simp only [Option.getD_some]
  omega
theorem okIn_lit {m n : Int} (h : -2147483648 ≤ n ∧ n ≤ 2147483647) : okIn m (0, n) = true := by simp [okIn, h]
theorem okIn_prim {m n : Int} (h : 0 ≤ n ∧ n ≤ 23) : okIn m (1, n) = true := by simp [okIn, h]
theorem okIn_place {m o n : Int} (h : o = 2 ∨ o = 3 ∨ o = 4 ∨ o = 5 ∨ o = 7) (h2 : 0 ≤ n ∧ n < m) : okIn m (o, n) = true := by
  rcases h with rfl | rfl | rfl | rfl | rfl <;> simp [okIn, h2]
theorem okIn_nought {m o n : Int} (h : o = 6 ∨ o = 8 ∨ o = 9) (h2 : n = 0) : okIn m (o, n) = true := by
  rcases h with rfl | rfl | rfl <;> simp [okIn, h2]
theorem MadeC.ok {ds : List Df} {tss : List (List Tr)} (h : MadeC ds tss) (tail : Bool) : codeOk (codeV tail tss) = true := by
  have hl := h.len tail
  have hw := h.wide tail
  unfold codeOk
  simp only [Bool.and_eq_true, decide_eq_true_eq, List.all_eq_true]
  refine ⟨by omega, ?_, fun o ho => ?_⟩
  · have : (codeV tail tss)[(codeV tail tss).length - 1]? = some (9, 0) := by
      rw [hl]
      unfold codeV
      rw [List.getElem?_append_right (by rw [List.length_map, codesL_len tail tss (fun ts ht => (h.each ts ht).1)]; omega), List.length_map, codesL_len tail tss (fun ts ht => (h.each ts ht).1)]
      simp
    rw [this]
    rfl
  · rw [hl]
    unfold codeV at ho
    rcases List.mem_append.1 ho with ho | ho
    · obtain ⟨c, hc, rfl⟩ := List.mem_map.1 ho
      have h1 := codesL_ok ds.length tail tss (fun ts ht => ⟨(h.each ts ht).1, (h.each ts ht).2.2⟩) 0 c hc
      obtain ⟨o, n⟩ := c
      cases n with
      | inl n =>
        simp only [CdOk] at h1
        show okIn _ (o, n) = true
        rcases h1 with ⟨rfl, h1⟩ | ⟨rfl, h1⟩ | ⟨h2, h1⟩ | ⟨h2, h1⟩
        · exact okIn_lit h1
        · exact okIn_prim h1
        · exact okIn_place (by omega) (by omega)
        · exact okIn_nought (by omega) h1
      | inr k =>
        simp only [CdOk] at h1
        have h3 := startI_lt (tail := tail) (tss := tss) (k := k) (by rw [h.of.len]; exact h1.2)
        exact okIn_place (o := o) (n := startI (startsL tail 0 tss) k) (by omega) (by omega)
    · rw [List.mem_singleton.1 ho]
      simp [okIn]
end Go.Proofs.YtofikgjoiidhmaaGreatDoor

namespace Go.Proofs.YtofikgjoiidhmaaGreatDoor
open Go.RowKit Go

set_option maxRecDepth 100000 in
set_option maxHeartbeats 4000000 in
theorem impl_calls (xs : List (Int × Int)) (hrg : RngO xs) (v : Value) (n : Nat) (w : World) (hr : RdS w v xs) : Calls Tryz.prog 73 #[v, .int .i64 n] w fun e w' => e = .returned (.bool (xs.all (okC n))) ∧ Below w.heap.size w w' := by
  obtain ⟨R, hR⟩ : ∃ R, xs.all (okC n) = R := ⟨_, rfl⟩
  rw [hR]
  obtain ⟨A, cap, rfl⟩ := hr.form
  obtain ⟨N, hN⟩ : ∃ N, xs.length = N := ⟨_, rfl⟩
  have HR := Lib.hid (fun W (h : Below w.heap.size w W) => hr.below h)
  have HRR := Lib.hid hR
  have HN := Lib.hid hN
  have HG := Lib.hid hrg
  have hN62 : N ≤ 4611686018427387904 := by
    obtain ⟨_, _, _, h, _⟩ := hr
    omega
  rw [hN]
  clear hr hrg hR hN
  go_enter Tryz.func73, Tryz.ntmps73
  go_wp2_with fail
  go_loopw [9] (fun vi wr => ∃ i : Nat, vi = .int .i64 i ∧ i ≤ N ∧ Hid (Below w.heap.size w wr) ∧ Hid ((xs.take i).all (okC n) = true)) (fun vi _ => N - (intOf vi).toNat)
  case atStart => exact ⟨0, rfl, by omega, Lib.hid (Below.refl _ _), Lib.hid (by simp)⟩
  case round =>
    obtain ⟨i, rfl, hi, HB, HA⟩ := hrel
    by_cases hp : i < N
    · have hp' : i < xs.length := by rw [HN.out]; exact hp
      obtain ⟨a, rfl, la, p0, p1⟩ := (HR.out wr HB.out).item hp'
      obtain ⟨x, hx⟩ : ∃ x, xs[i] = x := ⟨_, rfl⟩
      have hrx := HG.out x (by rw [← hx]; exact List.getElem_mem hp')
      have HST : Hid (okC n x = true → (xs.take (i + 1)).all (okC n) = true) := Lib.hid (fun h => all_step hp' HA.out (by rw [hx]; exact h))
      have HNO : Hid (okC n x = false → R = false) := Lib.hid (fun h => by rw [← HRR.out]; exact all_not hp' (by rw [hx]; exact h))
      obtain ⟨k, z⟩ := x
      rw [hx] at p0 p1
      simp only at hrx p0 p1
      have i1 : (0 : Int) ≤ (i : Int) := by omega
      have i2 : (i : Int) < (N : Int) := by omega
      have wn : IntKind.i64.wrap z = z := IntWalk.i64_in _ (by omega)
      clear hx hrx la hp' HA
      by_cases hk : k = 2
      · subst hk
        by_cases hz : (n : Int) ≤ z
        · have HE : Hid (R = false) := Lib.hid (HNO.out (by simp [okC, hz]))
          clear HST HNO
          go_wp2_with fail
          go_ret
          exact ⟨by rw [HE.out]; rfl, by have := HB.out; exact this.alloc this.size _⟩
        · have HA2 := Lib.hid (HST.out (by simp [okC]; omega))
          have HB2 := Lib.hid (HB.out.alloc HB.out.size (.cells #[.int .i64 2, .int .i32 z] 70))
          clear HST HNO HB
          go_wp2_with fail
          go_roundw
          case rel => exact ⟨i + 1, by go_num, by omega, HB2, HA2⟩
          case measure => simp [intOf]; omega
      · have q2 : (k == 2) = false := by simpa using hk
        have HA2 := Lib.hid (HST.out (by simp [okC, hk]))
        have HB2 := Lib.hid (HB.out.alloc HB.out.size (.cells #[.int .i64 k, .int .i32 z] 70))
        clear HST HNO HB hk
        go_wp2_with fail
        go_roundw
        case rel => exact ⟨i + 1, by go_num, by omega, HB2, HA2⟩
        case measure => simp [intOf]; omega
    · obtain rfl : i = N := by omega
      have HE : Hid (R = true) := Lib.hid (by have := HA.out; rw [List.take_of_length_le (by rw [HN.out]; exact Nat.le_refl _)] at this; rw [← HRR.out]; exact this)
      clear HA HR HG
      go_wp2_with fail
      go_ret
      exact ⟨by rw [HE.out]; rfl, HB.out⟩
end Go.Proofs.YtofikgjoiidhmaaGreatDoor

namespace Go.Proofs.YtofikgjoiidhmaaGreatDoor
open Go.RowKit Go

theorem own_putD {w : World} {base size : Nat} {e : TypeId} {v : Value} {n : Nat} {xs : List Value} (h : w.ownsRow base e size v n xs) {p : Addr} (hp : p.block < base) (u : Value) : (w.setCell p u).ownsRow base e size v n xs :=
  h.kept (row := some p.block) (only_setCell (World.grownBy.refl _ _) (.inl rfl) _) (.inr fun e => by have := (World.ownsRow.lt h _ e).1; omega)
theorem infoD : (Tryz.prog.info? 60).map (fun i => (i.zero, i.size, i.bytes)) = some (some (.agg #[.string ⟨#[]⟩, .slice none 0 0]), 2, 40) := by kernel_rfl
theorem made_dfv (n : Nat) : (madeCells #[Value.string ⟨#[]⟩, Value.slice none 0 0] (n * 2)).toList = dfv (List.replicate n (⟨#[]⟩, Value.slice none 0 0)) := by
  refine List.ext_getElem (by simp [madeCells, dfv_len]) fun i h1 h2 => ?_
  have h3 : i < n * 2 := by simpa [madeCells] using h1
  obtain ⟨j, hj⟩ : ∃ j, i = j * 2 ∨ i = j * 2 + 1 := ⟨i / 2, by omega⟩
  rcases hj with rfl | rfl
  · have := dfv_get0 (xs := List.replicate n (⟨#[]⟩, Value.slice none 0 0)) (i := j) (by simp; omega)
    rw [List.getElem?_eq_getElem h2] at this
    rw [Option.some.inj this]
    simp [madeCells]
  · have := dfv_get1 (xs := List.replicate n (⟨#[]⟩, Value.slice none 0 0)) (i := j) (by simp; omega)
    rw [List.getElem?_eq_getElem h2] at this
    rw [Option.some.inj this]
    have e : (j * 2 + 1) % 2 = 1 := by omega
    simp [madeCells, e]
/-- So many definitions as they are laid first. -/
abbrev zdf (n : Nat) : List (ByteArray × Value) := List.replicate n (⟨#[]⟩, Value.slice none 0 0)
theorem zdf_set {ps : List (ByteArray × Value)} {N i : Nat} (hl : ps.length = i) (hi : i < N) (s : ByteArray × Value) : (ps ++ zdf (N - i)).set i s = (ps ++ [s]) ++ zdf (N - (i + 1)) := by
  obtain ⟨m, hm⟩ : ∃ m, N - i = m + 1 := ⟨N - i - 1, by omega⟩
  rw [hm, show N - (i + 1) = m by omega]
  unfold zdf
  rw [List.replicate_succ, List.set_append_right _ _ (by omega), hl, Nat.sub_self, List.set_cons_zero, List.append_assoc]
  rfl
end Go.Proofs.YtofikgjoiidhmaaGreatDoor

namespace Go.Proofs.YtofikgjoiidhmaaGreatDoor
open Go.RowKit Go

set_option maxHeartbeats 1000000 in
theorem bare_any (k n : Int) (w : World) : Calls Tryz.prog 157 #[.agg #[.int .i64 k, .int .i32 n]] w fun e w' => e = .returned (.agg #[.int .i64 k, .int .i32 n, .slice none 0 0]) ∧ Below w.heap.size w w' := by
  go_enter Tryz.func157, Tryz.ntmps157
  go_wp2
  exact bodyPost_ret (v := .agg #[.int .i64 k, .int .i32 n, .slice none 0 0]) (by simp [results, Tryz.results157, go_sem]) rfl ⟨rfl, by go_grown⟩
set_option maxHeartbeats 2000000 in
theorem limb_if (n : Int) (q : Bool) (hq : okOp (3, n) = q) (hn0 : -2147483648 ≤ n) (hn1 : n ≤ 2147483647) (w : World) : Calls Tryz.prog 156 #[.agg #[.int .i64 3, .int .i32 n, .slice none 0 0]] w fun e w' => e = .returned (.tuple #[.iface 185 (.agg #[.int .i64 3, .int .i32 n, .slice none 0 0]), .bool q]) ∧ Below w.heap.size w w' := by
  have HO := Lib.hid (fun W => impl_opok 3 n hn0 hn1 W)
  rw [hq] at HO
  have hbx : Below w.heap.size w ((w.alloc (.cells #[.int .i64 3, .int .i32 n, .slice none 0 0] 172)).alloc (.cells #[.int .i64 3, .int .i32 n] 70)) := (below_alloc1 w _).alloc (below_alloc1 w _).size _
  have k0 := ((Blk.new w 172 #[.int .i64 3, .int .i32 n, .slice none 0 0]).alloc (.cells #[.int .i64 3, .int .i32 n] 70))
  have k1 := Blk.new (w.alloc (.cells #[.int .i64 3, .int .i32 n, .slice none 0 0] 172)) 70 #[.int .i64 3, .int .i32 n]
  rw [World.size_alloc] at k1
  have HS : Hid (∀ W, Below ((w.alloc (.cells #[.int .i64 3, .int .i32 n, .slice none 0 0] 172)).alloc (.cells #[.int .i64 3, .int .i32 n] 70)).heap.size ((w.alloc (.cells #[.int .i64 3, .int .i32 n, .slice none 0 0] 172)).alloc (.cells #[.int .i64 3, .int .i32 n] 70)) W → W.cell? ⟨w.heap.size + 1, 0, none⟩ = some (.int .i64 3) ∧ W.cell? ⟨w.heap.size + 1, 1, none⟩ = some (.int .i32 n) ∧ W.cell? ⟨w.heap.size, 2, none⟩ = some (.slice none 0 0)) := Lib.hid (fun W h => ⟨(k1.below h k1.lt).cell 0, (k1.below h k1.lt).cell 1, (k0.below h k0.lt).cell 2⟩)
  have HBX := Lib.hid hbx
  have HBD : Hid (Below ((w.alloc (.cells #[.int .i64 3, .int .i32 n, .slice none 0 0] 172)).alloc (.cells #[.int .i64 3, .int .i32 n] 70)).heap.size ((w.alloc (.cells #[.int .i64 3, .int .i32 n, .slice none 0 0] 172)).alloc (.cells #[.int .i64 3, .int .i32 n] 70)) ((w.alloc (.cells #[.int .i64 3, .int .i32 n, .slice none 0 0] 172)).alloc (.cells #[.int .i64 3, .int .i32 n] 70)).drew) := Lib.hid (Below.refl _ _).drew
  clear hq hbx k0 k1 hn0 hn1
  go_enter Tryz.func156, Tryz.ntmps156
  go_wp2_with fail
  go_region_held3 (fun W => W.cell? ⟨w.heap.size + 1, 0, none⟩ = some (.int .i64 3) ∧ W.cell? ⟨w.heap.size + 1, 1, none⟩ = some (.int .i32 n) ∧ W.cell? ⟨w.heap.size, 2, none⟩ = some (.slice none 0 0)) (first | exact HS.out _ (Below.refl _ _) | exact HS.out _ HBD.out | go_keep | exact HS.out _ (HBD.out.trans (hb2.mono HBD.out.size))) (first | (go_at_call 168; refine (HO.out _).mono ?_; rintro e w2 ⟨rfl, hb2⟩))
  go_wp2
  go_ret2
  exact ⟨rfl, HBX.out.trans ((HBD.out.trans (hb2.mono HBD.out.size)).mono HBX.out.size)⟩
set_option maxHeartbeats 2000000 in
theorem limb_unless (n : Int) (q : Bool) (hq : okOp (4, n) = q) (hn0 : -2147483648 ≤ n) (hn1 : n ≤ 2147483647) (w : World) : Calls Tryz.prog 156 #[.agg #[.int .i64 4, .int .i32 n, .slice none 0 0]] w fun e w' => e = .returned (.tuple #[.iface 185 (.agg #[.int .i64 4, .int .i32 n, .slice none 0 0]), .bool q]) ∧ Below w.heap.size w w' := by
  have HO := Lib.hid (fun W => impl_opok 4 n hn0 hn1 W)
  rw [hq] at HO
  have hbx : Below w.heap.size w ((w.alloc (.cells #[.int .i64 4, .int .i32 n, .slice none 0 0] 172)).alloc (.cells #[.int .i64 4, .int .i32 n] 70)) := (below_alloc1 w _).alloc (below_alloc1 w _).size _
  have k0 := ((Blk.new w 172 #[.int .i64 4, .int .i32 n, .slice none 0 0]).alloc (.cells #[.int .i64 4, .int .i32 n] 70))
  have k1 := Blk.new (w.alloc (.cells #[.int .i64 4, .int .i32 n, .slice none 0 0] 172)) 70 #[.int .i64 4, .int .i32 n]
  rw [World.size_alloc] at k1
  have HS : Hid (∀ W, Below ((w.alloc (.cells #[.int .i64 4, .int .i32 n, .slice none 0 0] 172)).alloc (.cells #[.int .i64 4, .int .i32 n] 70)).heap.size ((w.alloc (.cells #[.int .i64 4, .int .i32 n, .slice none 0 0] 172)).alloc (.cells #[.int .i64 4, .int .i32 n] 70)) W → W.cell? ⟨w.heap.size + 1, 0, none⟩ = some (.int .i64 4) ∧ W.cell? ⟨w.heap.size + 1, 1, none⟩ = some (.int .i32 n) ∧ W.cell? ⟨w.heap.size, 2, none⟩ = some (.slice none 0 0)) := Lib.hid (fun W h => ⟨(k1.below h k1.lt).cell 0, (k1.below h k1.lt).cell 1, (k0.below h k0.lt).cell 2⟩)
  have HBX := Lib.hid hbx
  have HBD : Hid (Below ((w.alloc (.cells #[.int .i64 4, .int .i32 n, .slice none 0 0] 172)).alloc (.cells #[.int .i64 4, .int .i32 n] 70)).heap.size ((w.alloc (.cells #[.int .i64 4, .int .i32 n, .slice none 0 0] 172)).alloc (.cells #[.int .i64 4, .int .i32 n] 70)) ((w.alloc (.cells #[.int .i64 4, .int .i32 n, .slice none 0 0] 172)).alloc (.cells #[.int .i64 4, .int .i32 n] 70)).drew) := Lib.hid (Below.refl _ _).drew
  clear hq hbx k0 k1 hn0 hn1
  go_enter Tryz.func156, Tryz.ntmps156
  go_wp2_with fail
  go_region_held3 (fun W => W.cell? ⟨w.heap.size + 1, 0, none⟩ = some (.int .i64 4) ∧ W.cell? ⟨w.heap.size + 1, 1, none⟩ = some (.int .i32 n) ∧ W.cell? ⟨w.heap.size, 2, none⟩ = some (.slice none 0 0)) (first | exact HS.out _ (Below.refl _ _) | exact HS.out _ HBD.out | go_keep | exact HS.out _ (HBD.out.trans (hb2.mono HBD.out.size))) (first | (go_at_call 168; refine (HO.out _).mono ?_; rintro e w2 ⟨rfl, hb2⟩))
  go_wp2
  go_ret2
  exact ⟨rfl, HBX.out.trans ((HBD.out.trans (hb2.mono HBD.out.size)).mono HBX.out.size)⟩
set_option maxHeartbeats 2000000 in
theorem limb_for (n : Int) (q : Bool) (hq : okOp (6, n) = q) (hn0 : -2147483648 ≤ n) (hn1 : n ≤ 2147483647) (w : World) : Calls Tryz.prog 156 #[.agg #[.int .i64 6, .int .i32 n, .slice none 0 0]] w fun e w' => e = .returned (.tuple #[.iface 186 (.agg #[.int .i64 6, .int .i32 n, .slice none 0 0]), .bool q]) ∧ Below w.heap.size w w' := by
  have HO := Lib.hid (fun W => impl_opok 6 n hn0 hn1 W)
  rw [hq] at HO
  have hbx : Below w.heap.size w ((w.alloc (.cells #[.int .i64 6, .int .i32 n, .slice none 0 0] 172)).alloc (.cells #[.int .i64 6, .int .i32 n] 70)) := (below_alloc1 w _).alloc (below_alloc1 w _).size _
  have k0 := ((Blk.new w 172 #[.int .i64 6, .int .i32 n, .slice none 0 0]).alloc (.cells #[.int .i64 6, .int .i32 n] 70))
  have k1 := Blk.new (w.alloc (.cells #[.int .i64 6, .int .i32 n, .slice none 0 0] 172)) 70 #[.int .i64 6, .int .i32 n]
  rw [World.size_alloc] at k1
  have HS : Hid (∀ W, Below ((w.alloc (.cells #[.int .i64 6, .int .i32 n, .slice none 0 0] 172)).alloc (.cells #[.int .i64 6, .int .i32 n] 70)).heap.size ((w.alloc (.cells #[.int .i64 6, .int .i32 n, .slice none 0 0] 172)).alloc (.cells #[.int .i64 6, .int .i32 n] 70)) W → W.cell? ⟨w.heap.size + 1, 0, none⟩ = some (.int .i64 6) ∧ W.cell? ⟨w.heap.size + 1, 1, none⟩ = some (.int .i32 n) ∧ W.cell? ⟨w.heap.size, 2, none⟩ = some (.slice none 0 0)) := Lib.hid (fun W h => ⟨(k1.below h k1.lt).cell 0, (k1.below h k1.lt).cell 1, (k0.below h k0.lt).cell 2⟩)
  have HBX := Lib.hid hbx
  have HBD : Hid (Below ((w.alloc (.cells #[.int .i64 6, .int .i32 n, .slice none 0 0] 172)).alloc (.cells #[.int .i64 6, .int .i32 n] 70)).heap.size ((w.alloc (.cells #[.int .i64 6, .int .i32 n, .slice none 0 0] 172)).alloc (.cells #[.int .i64 6, .int .i32 n] 70)) ((w.alloc (.cells #[.int .i64 6, .int .i32 n, .slice none 0 0] 172)).alloc (.cells #[.int .i64 6, .int .i32 n] 70)).drew) := Lib.hid (Below.refl _ _).drew
  clear hq hbx k0 k1 hn0 hn1
  go_enter Tryz.func156, Tryz.ntmps156
  go_wp2_with fail
  go_region_held3 (fun W => W.cell? ⟨w.heap.size + 1, 0, none⟩ = some (.int .i64 6) ∧ W.cell? ⟨w.heap.size + 1, 1, none⟩ = some (.int .i32 n) ∧ W.cell? ⟨w.heap.size, 2, none⟩ = some (.slice none 0 0)) (first | exact HS.out _ (Below.refl _ _) | exact HS.out _ HBD.out | go_keep | exact HS.out _ (HBD.out.trans (hb2.mono HBD.out.size))) (first | (go_at_call 168; refine (HO.out _).mono ?_; rintro e w2 ⟨rfl, hb2⟩))
  go_wp2
  go_ret2
  exact ⟨rfl, HBX.out.trans ((HBD.out.trans (hb2.mono HBD.out.size)).mono HBX.out.size)⟩
set_option maxHeartbeats 1000000 in
theorem limb_end5 (n : Int) (w : World) : Calls Tryz.prog 156 #[.agg #[.int .i64 5, .int .i32 n, .slice none 0 0]] w fun e w' => e = .returned (.tuple #[.nilIface, .bool false]) ∧ Below w.heap.size w w' := by
  go_enter Tryz.func156, Tryz.ntmps156
  go_wp2
  go_ret2
  exact ⟨rfl, by go_grown⟩
set_option maxHeartbeats 1000000 in
theorem limb_end7 (n : Int) (w : World) : Calls Tryz.prog 156 #[.agg #[.int .i64 7, .int .i32 n, .slice none 0 0]] w fun e w' => e = .returned (.tuple #[.nilIface, .bool false]) ∧ Below w.heap.size w w' := by
  go_enter Tryz.func156, Tryz.ntmps156
  go_wp2
  go_ret2
  exact ⟨rfl, by go_grown⟩
set_option maxHeartbeats 2000000 in
theorem limb_leaf_true (k n : Int) (h3 : k ≠ 3 ∧ k ≠ 4 ∧ k ≠ 5 ∧ k ≠ 6 ∧ k ≠ 7) (hq : okOp (k, n) = true) (hn0 : -2147483648 ≤ n) (hn1 : n ≤ 2147483647) (w : World) : Calls Tryz.prog 156 #[.agg #[.int .i64 k, .int .i32 n, .slice none 0 0]] w fun e w' => e = .returned (.tuple #[.iface 188 (.agg #[.int .i64 k, .int .i32 n]), .bool true]) ∧ Below w.heap.size w w' := by
  have HO := Lib.hid (fun W => impl_opok k n hn0 hn1 W)
  rw [hq] at HO
  have q5 : (k == 5) = false := by simp; omega
  have q7 : (k == 7) = false := by simp; omega
  have q3 : (k == 3) = false := by simp; omega
  have q4 : (k == 4) = false := by simp; omega
  have q6 : (k == 6) = false := by simp; omega
  clear h3
  have hbx : Below w.heap.size w ((w.alloc (.cells #[.int .i64 k, .int .i32 n, .slice none 0 0] 172)).alloc (.cells #[.int .i64 k, .int .i32 n] 70)) := (below_alloc1 w _).alloc (below_alloc1 w _).size _
  have k0 := ((Blk.new w 172 #[.int .i64 k, .int .i32 n, .slice none 0 0]).alloc (.cells #[.int .i64 k, .int .i32 n] 70))
  have k1 := Blk.new (w.alloc (.cells #[.int .i64 k, .int .i32 n, .slice none 0 0] 172)) 70 #[.int .i64 k, .int .i32 n]
  rw [World.size_alloc] at k1
  have HS : Hid (∀ W, Below ((w.alloc (.cells #[.int .i64 k, .int .i32 n, .slice none 0 0] 172)).alloc (.cells #[.int .i64 k, .int .i32 n] 70)).heap.size ((w.alloc (.cells #[.int .i64 k, .int .i32 n, .slice none 0 0] 172)).alloc (.cells #[.int .i64 k, .int .i32 n] 70)) W → W.cell? ⟨w.heap.size + 1, 0, none⟩ = some (.int .i64 k) ∧ W.cell? ⟨w.heap.size + 1, 1, none⟩ = some (.int .i32 n) ∧ W.cell? ⟨w.heap.size, 2, none⟩ = some (.slice none 0 0)) := Lib.hid (fun W h => ⟨(k1.below h k1.lt).cell 0, (k1.below h k1.lt).cell 1, (k0.below h k0.lt).cell 2⟩)
  have HBX := Lib.hid hbx
  have HBD : Hid (Below ((w.alloc (.cells #[.int .i64 k, .int .i32 n, .slice none 0 0] 172)).alloc (.cells #[.int .i64 k, .int .i32 n] 70)).heap.size ((w.alloc (.cells #[.int .i64 k, .int .i32 n, .slice none 0 0] 172)).alloc (.cells #[.int .i64 k, .int .i32 n] 70)) ((w.alloc (.cells #[.int .i64 k, .int .i32 n, .slice none 0 0] 172)).alloc (.cells #[.int .i64 k, .int .i32 n] 70)).drew) := Lib.hid (Below.refl _ _).drew
  clear hq hbx k0 k1 hn0 hn1
  go_enter Tryz.func156, Tryz.ntmps156
  go_wp2_with fail
  go_region_held3 (fun W => W.cell? ⟨w.heap.size + 1, 0, none⟩ = some (.int .i64 k) ∧ W.cell? ⟨w.heap.size + 1, 1, none⟩ = some (.int .i32 n) ∧ W.cell? ⟨w.heap.size, 2, none⟩ = some (.slice none 0 0)) (first | exact HS.out _ (Below.refl _ _) | exact HS.out _ HBD.out | go_keep | exact HS.out _ (HBD.out.trans (hb2.mono HBD.out.size))) (first | (go_at_call 168; refine (HO.out _).mono ?_; rintro e w2 ⟨rfl, hb2⟩))
  go_wp2
  go_ret2
  exact ⟨rfl, HBX.out.trans ((HBD.out.trans (hb2.mono HBD.out.size)).mono HBX.out.size)⟩
set_option maxHeartbeats 2000000 in
theorem limb_leaf_false (k n : Int) (h3 : k ≠ 3 ∧ k ≠ 4 ∧ k ≠ 5 ∧ k ≠ 6 ∧ k ≠ 7) (hq : okOp (k, n) = false) (hn0 : -2147483648 ≤ n) (hn1 : n ≤ 2147483647) (w : World) : Calls Tryz.prog 156 #[.agg #[.int .i64 k, .int .i32 n, .slice none 0 0]] w fun e w' => e = .returned (.tuple #[.iface 188 (.agg #[.int .i64 k, .int .i32 n]), .bool false]) ∧ Below w.heap.size w w' := by
  have HO := Lib.hid (fun W => impl_opok k n hn0 hn1 W)
  rw [hq] at HO
  have q5 : (k == 5) = false := by simp; omega
  have q7 : (k == 7) = false := by simp; omega
  have q3 : (k == 3) = false := by simp; omega
  have q4 : (k == 4) = false := by simp; omega
  have q6 : (k == 6) = false := by simp; omega
  clear h3
  have hbx : Below w.heap.size w ((w.alloc (.cells #[.int .i64 k, .int .i32 n, .slice none 0 0] 172)).alloc (.cells #[.int .i64 k, .int .i32 n] 70)) := (below_alloc1 w _).alloc (below_alloc1 w _).size _
  have k0 := ((Blk.new w 172 #[.int .i64 k, .int .i32 n, .slice none 0 0]).alloc (.cells #[.int .i64 k, .int .i32 n] 70))
  have k1 := Blk.new (w.alloc (.cells #[.int .i64 k, .int .i32 n, .slice none 0 0] 172)) 70 #[.int .i64 k, .int .i32 n]
  rw [World.size_alloc] at k1
  have HS : Hid (∀ W, Below ((w.alloc (.cells #[.int .i64 k, .int .i32 n, .slice none 0 0] 172)).alloc (.cells #[.int .i64 k, .int .i32 n] 70)).heap.size ((w.alloc (.cells #[.int .i64 k, .int .i32 n, .slice none 0 0] 172)).alloc (.cells #[.int .i64 k, .int .i32 n] 70)) W → W.cell? ⟨w.heap.size + 1, 0, none⟩ = some (.int .i64 k) ∧ W.cell? ⟨w.heap.size + 1, 1, none⟩ = some (.int .i32 n) ∧ W.cell? ⟨w.heap.size, 2, none⟩ = some (.slice none 0 0)) := Lib.hid (fun W h => ⟨(k1.below h k1.lt).cell 0, (k1.below h k1.lt).cell 1, (k0.below h k0.lt).cell 2⟩)
  have HBX := Lib.hid hbx
  have HBD : Hid (Below ((w.alloc (.cells #[.int .i64 k, .int .i32 n, .slice none 0 0] 172)).alloc (.cells #[.int .i64 k, .int .i32 n] 70)).heap.size ((w.alloc (.cells #[.int .i64 k, .int .i32 n, .slice none 0 0] 172)).alloc (.cells #[.int .i64 k, .int .i32 n] 70)) ((w.alloc (.cells #[.int .i64 k, .int .i32 n, .slice none 0 0] 172)).alloc (.cells #[.int .i64 k, .int .i32 n] 70)).drew) := Lib.hid (Below.refl _ _).drew
  clear hq hbx k0 k1 hn0 hn1
  go_enter Tryz.func156, Tryz.ntmps156
  go_wp2_with fail
  obtain ⟨cc0, cc1, cc2⟩ := HS.out _ (Below.refl _ _)
  first | (go_region_with (go_at_call 168; refine (HO.out _).mono ?_; rintro e w2 ⟨rfl, hb2⟩; obtain ⟨d0, d1, d2⟩ := HS.out _ (HBD.out.trans (hb2.mono HBD.out.size)))) | fail
  all_goals go_wp2
  all_goals go_ret2
  all_goals exact ⟨rfl, HBX.out.trans ((HBD.out.trans (hb2.mono HBD.out.size)).mono HBX.out.size)⟩
set_option maxRecDepth 100000 in
set_option maxHeartbeats 1000000 in
theorem inside_fork (k n : Int) (w : World) : Calls Tryz.prog 159 #[.iface 185 (.agg #[.int .i64 k, .int .i32 n, .slice none 0 0])] w fun e w' => e = .returned (.tuple #[.slice none 0 0, .agg #[.int .i64 5, .int .i32 0], .bool true]) ∧ Below w.heap.size w w' := by
  have t_fork_fork : ∀ W, (Instr.typeAssert (.iface 185 (.agg #[.int .i64 k, .int .i32 n, .slice none 0 0])) 167 185 true).run Tryz.prog W = .ok (.tuple #[.agg #[.int .i64 k, .int .i32 n, .slice none 0 0], .bool true]) W := fun _ => by kernel_rfl
  go_enter Tryz.func159, Tryz.ntmps159
  go_wp2
  exact bodyPost_ret (v := .tuple #[.slice none 0 0, .agg #[.int .i64 5, .int .i32 0], .bool true]) (by simp [results, Tryz.results159, go_sem]) rfl ⟨rfl, by go_grown⟩
set_option maxRecDepth 100000 in
set_option maxHeartbeats 1000000 in
theorem inside_loop (k n : Int) (w : World) : Calls Tryz.prog 159 #[.iface 186 (.agg #[.int .i64 k, .int .i32 n, .slice none 0 0])] w fun e w' => e = .returned (.tuple #[.slice none 0 0, .agg #[.int .i64 7, .int .i32 0], .bool true]) ∧ Below w.heap.size w w' := by
  have t_loop_fork : ∀ W, (Instr.typeAssert (.iface 186 (.agg #[.int .i64 k, .int .i32 n, .slice none 0 0])) 167 185 true).run Tryz.prog W = .ok (.tuple #[.agg #[.int .i64 0, .int .i32 0, .slice none 0 0], .bool false]) W := fun _ => by kernel_rfl
  have t_loop_loop : ∀ W, (Instr.typeAssert (.iface 186 (.agg #[.int .i64 k, .int .i32 n, .slice none 0 0])) 167 186 true).run Tryz.prog W = .ok (.tuple #[.agg #[.int .i64 k, .int .i32 n, .slice none 0 0], .bool true]) W := fun _ => by kernel_rfl
  go_enter Tryz.func159, Tryz.ntmps159
  go_wp2
  exact bodyPost_ret (v := .tuple #[.slice none 0 0, .agg #[.int .i64 7, .int .i32 0], .bool true]) (by simp [results, Tryz.results159, go_sem]) rfl ⟨rfl, by go_grown⟩
set_option maxRecDepth 100000 in
set_option maxHeartbeats 1000000 in
theorem inside_leaf (k n : Int) (w : World) : Calls Tryz.prog 159 #[.iface 188 (.agg #[.int .i64 k, .int .i32 n])] w fun e w' => e = .returned (.tuple #[.slice none 0 0, .agg #[.int .i64 0, .int .i32 0], .bool false]) ∧ Below w.heap.size w w' := by
  have t_leaf_fork : ∀ W, (Instr.typeAssert (.iface 188 (.agg #[.int .i64 k, .int .i32 n])) 167 185 true).run Tryz.prog W = .ok (.tuple #[.agg #[.int .i64 0, .int .i32 0, .slice none 0 0], .bool false]) W := fun _ => by kernel_rfl
  have t_leaf_loop : ∀ W, (Instr.typeAssert (.iface 188 (.agg #[.int .i64 k, .int .i32 n])) 167 186 true).run Tryz.prog W = .ok (.tuple #[.agg #[.int .i64 0, .int .i32 0, .slice none 0 0], .bool false]) W := fun _ => by kernel_rfl
  go_enter Tryz.func159, Tryz.ntmps159
  go_wp2
  exact bodyPost_ret (v := .tuple #[.slice none 0 0, .agg #[.int .i64 0, .int .i32 0], .bool false]) (by simp [results, Tryz.results159, go_sem]) rfl ⟨rfl, by go_grown⟩
end Go.Proofs.YtofikgjoiidhmaaGreatDoor

namespace Go.Proofs.YtofikgjoiidhmaaGreatDoor
open Go.RowKit Go

theorem wait_open {o : Int × Int} {r : List (Int × Int)} {st : List Int} (h : okOp o = true) (h3 : o.1 = 3 ∨ o.1 = 4 ∨ o.1 = 6) : waitG (o :: r) st = waitG r (st ++ [o.1]) := by rw [waitG, if_pos ⟨h, by omega, by omega⟩, if_pos h3]
theorem wait_leaf {o : Int × Int} {r : List (Int × Int)} {st : List Int} (h : okOp o = true) (h3 : o.1 ≠ 3 ∧ o.1 ≠ 4 ∧ o.1 ≠ 5 ∧ o.1 ≠ 6 ∧ o.1 ≠ 7) : waitG (o :: r) st = waitG r st := by rw [waitG, if_pos ⟨h, h3.2.2.1, h3.2.2.2.2⟩, if_neg (by omega)]
theorem wait_none {o : Int × Int} {r : List (Int × Int)} (h : ¬ (okOp o = true ∧ o.1 ≠ 5 ∧ o.1 ≠ 7)) : waitG (o :: r) [] = none := by rw [waitG, if_neg h]; rfl
theorem wait_pop {o : Int × Int} {r : List (Int × Int)} {st : List Int} {q : Int} (h : ¬ (okOp o = true ∧ o.1 ≠ 5 ∧ o.1 ≠ 7)) : waitG (o :: r) (st ++ [q]) = if endOf q = o then waitG r st else none := by
  rw [waitG, if_neg h]
  simp
/-- An op that begins nothing. -/
theorem limb_none (k n : Int) (h : ¬ (okOp (k, n) = true ∧ k ≠ 5 ∧ k ≠ 7)) (hn0 : -2147483648 ≤ n) (hn1 : n ≤ 2147483647) (w : World) : Calls Tryz.prog 156 #[.agg #[.int .i64 k, .int .i32 n, .slice none 0 0]] w fun e w' => (∃ t u, e = .returned (.tuple #[.iface t u, .bool false]) ∨ e = .returned (.tuple #[.nilIface, .bool false])) ∧ Below w.heap.size w w' := by
  by_cases h5 : k = 5
  · subst h5
    exact (limb_end5 n w).mono fun e w' ⟨h1, h2⟩ => ⟨⟨0, .bool false, .inr h1⟩, h2⟩
  by_cases h7 : k = 7
  · subst h7
    exact (limb_end7 n w).mono fun e w' ⟨h1, h2⟩ => ⟨⟨0, .bool false, .inr h1⟩, h2⟩
  have hq : okOp (k, n) = false := by
    cases hh : okOp (k, n) with
    | false => rfl
    | true => exact absurd ⟨hh, h5, h7⟩ h
  by_cases h3 : k = 3
  · subst h3
    exact (limb_if n false hq hn0 hn1 w).mono fun e w' ⟨h1, h2⟩ => ⟨⟨_, _, .inl h1⟩, h2⟩
  by_cases h4 : k = 4
  · subst h4
    exact (limb_unless n false hq hn0 hn1 w).mono fun e w' ⟨h1, h2⟩ => ⟨⟨_, _, .inl h1⟩, h2⟩
  by_cases h6 : k = 6
  · subst h6
    exact (limb_for n false hq hn0 hn1 w).mono fun e w' ⟨h1, h2⟩ => ⟨⟨_, _, .inl h1⟩, h2⟩
  exact (limb_leaf_false k n ⟨h3, h4, h5, h6, h7⟩ hq hn0 hn1 w).mono fun e w' ⟨h1, h2⟩ => ⟨⟨_, _, .inl h1⟩, h2⟩
set_option maxRecDepth 100000 in
theorem op_neq (w : World) (k1 n1 k2 n2 : Int) : (binOp .neq 70 (.agg #[.int .i64 k1, .int .i32 n1]) (.agg #[.int .i64 k2, .int .i32 n2])).run Tryz.prog w = .ok (.bool (!decide ((k1, n1) = (k2, n2)))) w := by
  have h : (binOp .neq 70 (.agg #[.int .i64 k1, .int .i32 n1]) (.agg #[.int .i64 k2, .int .i32 n2])).run Tryz.prog w = .ok (.bool (!(k1 == k2 && n1 == n2))) w := by
    simp [go_sem, Tryz.underlying70, Tryz.underlying3, Tryz.underlying21]
    (repeat' split) <;> simp_all
  have h2 : (k1 == k2 && n1 == n2) = decide ((k1, n1) = (k2, n2)) := by rw [Bool.eq_iff_iff]; simp
  rw [h, h2]
end Go.Proofs.YtofikgjoiidhmaaGreatDoor
