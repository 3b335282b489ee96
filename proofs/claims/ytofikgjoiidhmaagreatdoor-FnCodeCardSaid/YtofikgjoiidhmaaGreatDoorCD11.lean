/-
  impl.CodeOk.
  What the listed package-level variables give a walk: strconv's table of powers of ten.
  What the listed table of signs gives a walk.
  impl.DecText answers the number's decimal numeral, at every int.
  impl.InsText.
  impl.Listing.
  Plain mathematics, no program: the parts of a text between the bytes that cut it; its lines; its words.
  impl.parts tells the parts of a text between the signs that cut it, in order, as a function that takes a yield: for every loop body that keeps what lay.
  impl.parts hands back a function that tells the parts: as a loop over it asks; which signs are newlines, which are blanks.
-/
import Derived.Test.YtofikgjoiidhmaaGreatDoorCD9
import Derived.Test.YtofikgjoiidhmaaGreatDoorCD7
import Derived.Test.YtofikgjoiidhmaaGreatDoorCD3
import Derived.Test.YtofikgjoiidhmaaGreatDoorCD1
import Derived.Handy
import Derived.IntWalk
import Derived.Test.YtofikgjoiidhmaaGreatDoorRows
import Derived.Lib.LaidTab
import Derived.Lib.ItoaNum
import Derived.Stop.LaidErr
import Derived.MakeChecks
import Derived.ChangeArms
import Derived.OpenShut
import Derived.Test.YtofikgjoiidhmaaGreatDoorShelf
import Derived.Test.YtofikgjoiidhmaaGreatDoorCD2
import Derived.Lib.Join
import Derived.Deep.RegionHeld3
import Derived.WalkKit
import Derived.Laws.RangeAny
import Derived.Lib.DecodeN
import Derived.RangeFuncNested
import Derived.RangeFuncBound
import Derived.RangeFuncBox
import Derived.RangeFuncCalls
import Derived.RangeFuncLeaves
import Derived.Shelf.Abstract
import Derived.Shelf.RegionOpen
import Derived.WalkSpells
import Derived.WalkSmall
import Derived.OwnWalkIn
import Derived.TacticsInMore
import Derived.LoopNIn
import Derived.LoopIn
import Derived.Maps.AppendAt
import Derived.Lib.OthersKept
import Derived.Lib.Hide
import Derived.Lib.Strings
import Derived.Lib.IndexBytes
import Derived.WideShapes
namespace Go.Proofs.YtofikgjoiidhmaaGreatDoor
open Go.RowKit Go

/-- Steps whose numbers are numbers of 64 bits. -/
def RngC (xs : List (Int × Int)) : Prop := ∀ o ∈ xs, (-9223372036854775808 ≤ o.1 ∧ o.1 ≤ 9223372036854775807) ∧ (-9223372036854775808 ≤ o.2 ∧ o.2 ≤ 9223372036854775807)
theorem kindsC (k : Int) : k = 0 ∨ k = 1 ∨ (k = 2 ∨ k = 3 ∨ k = 4 ∨ k = 5 ∨ k = 7) ∨ (k = 6 ∨ k = 8 ∨ k = 9) ∨ ((k == 0) = false ∧ (k == 1) = false ∧ (k == 2) = false ∧ (k == 3) = false ∧ (k == 4) = false ∧ (k == 5) = false ∧ (k == 7) = false ∧ (k == 6) = false ∧ (k == 8) = false ∧ (k == 9) = false) := by
  simp only [beq_eq_false_iff_ne]
  omega
theorem okIn_other {k n m : Int} (h : (k == 0) = false ∧ (k == 1) = false ∧ (k == 2) = false ∧ (k == 3) = false ∧ (k == 4) = false ∧ (k == 5) = false ∧ (k == 7) = false ∧ (k == 6) = false ∧ (k == 8) = false ∧ (k == 9) = false) : okIn m (k, n) = false := by
  simp only [beq_eq_false_iff_ne] at h
  unfold okIn
  rw [if_neg (by simp only; omega), if_neg (by simp only; omega), if_neg (by simp only; omega), if_neg (by simp only; omega)]
theorem okIn_0 (m n : Int) : okIn m (0, n) = decide (-2147483648 ≤ n ∧ n ≤ 2147483647) := rfl
theorem okIn_1 (m n : Int) : okIn m (1, n) = decide (0 ≤ n ∧ n ≤ 23) := rfl
theorem okIn_at {k : Int} (m n : Int) (h : k = 2 ∨ k = 3 ∨ k = 4 ∨ k = 5 ∨ k = 7) : okIn m (k, n) = decide (0 ≤ n ∧ n < m) := by rcases h with rfl | rfl | rfl | rfl | rfl <;> rfl
theorem okIn_no {k : Int} (m n : Int) (h : k = 6 ∨ k = 8 ∨ k = 9) : okIn m (k, n) = decide (n = 0) := by rcases h with rfl | rfl | rfl <;> rfl
set_option maxRecDepth 100000 in
set_option maxHeartbeats 2000000 in
theorem impl_insok (k n m : Int) (w : World) : Calls Tryz.prog 36 #[.agg #[.int .i64 k, .int .i64 n], .int .i64 m] w fun e w' => e = .returned (.bool (okIn m (k, n))) ∧ Below w.heap.size w w' := by
  have HBX := Lib.hid (below_alloc1 w (.cells #[.int .i64 k, .int .i64 n] 72))
  rcases kindsC k with rfl | rfl | h | h | h
  · rw [okIn_0]
    have w32 : -2147483648 ≤ IntKind.i32.wrap n ∧ IntKind.i32.wrap n ≤ 2147483647 := by rw [IntKind.wrap_i32]; omega
    have w64 : IntKind.i64.wrap (IntKind.i32.wrap n) = IntKind.i32.wrap n := IntWalk.i64_in _ (by omega)
    have hd : decide (-2147483648 ≤ n ∧ n ≤ 2147483647) = (n == IntKind.i64.wrap (IntKind.i32.wrap n)) := by
      rw [w64]
      by_cases hr : -2147483648 ≤ n ∧ n ≤ 2147483647
      · rw [decide_eq_true hr, IntWalk.i32_in _ hr]
        simp
      · rw [decide_eq_false hr]
        symm
        rw [beq_eq_false_iff_ne]
        intro e
        omega
    rw [hd, IntWalk.i32_left, IntWalk.i64_left]
    clear w64
    clear w32 hd
    go_enter Tryz.func36, Tryz.ntmps36
    go_wp2_with fail
    go_ret
    exact ⟨rfl, HBX.out⟩
  · rw [okIn_1]
    have HB := Lib.hid (fun W => isbuiltin_any n W)
    have hb : decide (0 ≤ n ∧ n ≤ 23) = inB n 0 23 := by unfold inB; simp
    rw [hb]
    go_enter Tryz.func36, Tryz.ntmps36
    go_wp2_with fail
    refine (HB.out _).mono ?_
    rintro e w2 ⟨rfl, rfl⟩
    go_wp2_with fail
    go_ret
    exact ⟨rfl, HBX.out⟩
  · rw [okIn_at m n h]
    by_cases h0 : 0 ≤ n
    · by_cases h1 : n < m
      · rw [decide_eq_true ⟨h0, h1⟩]
        rcases h with rfl | rfl | rfl | rfl | rfl
        all_goals
          go_enter Tryz.func36, Tryz.ntmps36
          go_wp2_with fail
          go_ret
          exact ⟨rfl, HBX.out⟩
      · rw [decide_eq_false (fun h => h1 h.2)]
        rcases h with rfl | rfl | rfl | rfl | rfl
        all_goals
          go_enter Tryz.func36, Tryz.ntmps36
          go_wp2_with fail
          go_ret
          exact ⟨rfl, HBX.out⟩
    · rw [decide_eq_false (fun h => h0 h.1)]
      rcases h with rfl | rfl | rfl | rfl | rfl
      all_goals
        go_enter Tryz.func36, Tryz.ntmps36
        go_wp2_with fail
        go_ret
        exact ⟨rfl, HBX.out⟩
  · rw [okIn_no m n h]
    have hd : decide (n = 0) = (n == 0) := by by_cases hz : n = 0 <;> simp [hz]
    rw [hd]
    rcases h with rfl | rfl | rfl
    all_goals
      go_enter Tryz.func36, Tryz.ntmps36
      go_wp2_with fail
      go_ret
      exact ⟨rfl, HBX.out⟩
  · rw [okIn_other h]
    obtain ⟨q0, q1, q2, q3, q4, q5, q7, q6, q8, q9⟩ := h
    go_enter Tryz.func36, Tryz.ntmps36
    go_wp2_with fail
    go_ret
    exact ⟨rfl, HBX.out⟩
set_option maxRecDepth 100000 in
set_option maxHeartbeats 8000000 in
theorem impl_codeok (xs : List (Int × Int)) (hrg : RngC xs) (v : Value) (w : World) (hr : RdIc w v xs) : Calls Tryz.prog 11 #[v] w fun e w' => e = .returned (.bool (codeOk xs)) ∧ Below w.heap.size w w' := by
  obtain ⟨R, hR⟩ : ∃ R, codeOk xs = R := ⟨_, rfl⟩
  rw [hR]
  have hl62 : xs.length ≤ 4611686018427387904 := by
    obtain ⟨_, _, _, h, _⟩ := hr
    exact h
  obtain ⟨A, cap, rfl⟩ := hr.form
  by_cases h0 : xs.length = 0
  · have HE : Hid (R = false) := Lib.hid (hR.symm.trans (codeOk_len (by omega)))
    rw [h0]
    clear hr hrg hR h0 hl62
    go_enter Tryz.func11, Tryz.ntmps11
    go_wp2_with fail
    go_ret
    exact ⟨by rw [HE.out]; rfl, by go_grown⟩
  by_cases h1 : xs.length ≤ 1500
  · obtain ⟨M, hM⟩ : ∃ M, xs.length = M + 1 := ⟨xs.length - 1, by omega⟩
    have hMl : M < xs.length := by omega
    obtain ⟨a0, hA, la0, p0, -⟩ := hr.item hMl
    subst hA
    have hlast : xs[xs.length - 1]?.getD (0, 0) = xs[M] := by
      rw [hM, Nat.add_sub_cancel, List.getElem?_eq_getElem hMl]
      rfl
    obtain ⟨x, hx⟩ : ∃ x, xs[M] = x := ⟨_, rfl⟩
    rw [hx] at p0 hlast
    obtain ⟨k9, n9⟩ := x
    simp only at p0
    have wz : IntKind.i64.wrap (((M + 1 : Nat) : Int) - 1) = (M : Int) := by rw [show ((M + 1 : Nat) : Int) - 1 = (M : Int) by omega]; exact IntWalk.i64_in _ (by omega)
    have wy : ((M + 1 : Nat) : Int) - 1 = (M : Int) := by omega
    have i1 : (0 : Int) ≤ (M : Int) := by omega
    have i2 : (M : Int) < ((M + 1 : Nat) : Int) := by omega
    have g1 : (((M + 1 : Nat) : Int) == 0) = false := by rw [beq_eq_false_iff_ne]; omega
    have g2 : ¬ (1500 : Int) < ((M + 1 : Nat) : Int) := by omega
    by_cases h9 : k9 = 9
    · subst h9
      have HEND := Lib.hid (fun h => (codeOk_all ⟨by omega, h1⟩ (by rw [hlast]) h).symm.trans hR)
      have HNO := Lib.hid (fun i (hi : i < xs.length) h => hR.symm.trans (codeOk_not (xs := xs) hi h))
      have HST := Lib.hid (fun i (hi : i < xs.length) => all_step (p := okIn xs.length) hi)
      have HRG := Lib.hid hrg
      have HR := Lib.hid (fun W (h : Below w.heap.size w W) => hr.below h)
      have HN := Lib.hid hM
      have q9 : ((9 : Int) != 9) = false := by decide
      have hM2 : M ≤ 1499 := by omega
      rw [hM] at HEND ⊢
      obtain ⟨N, hN⟩ : ∃ N, M + 1 = N := ⟨_, rfl⟩
      have HNN := Lib.hid hN
      rw [hN] at HEND wz wy i2 g1 g2 ⊢
      have hN2 : N ≤ 1500 := by omega
      clear hr hrg hR hl62 h1 hM hMl hx h0 hlast la0 hN
      go_enter Tryz.func11, Tryz.ntmps11
      go_wp2_with fail
      go_loopw [25] (fun vi wr => ∃ i : Nat, vi = .int .i64 i ∧ i ≤ N ∧ Hid (Below w.heap.size w wr) ∧ Hid ((xs.take i).all (okIn xs.length) = true)) (fun vi _ => N - (intOf vi).toNat)
      case atStart => exact ⟨0, rfl, by omega, Lib.hid (Below.refl _ _), Lib.hid (by simp)⟩
      case round =>
        clear p0 wz wy i1 i2 g1 g2
        obtain ⟨i, rfl, hi, HB, HA⟩ := hrel
        by_cases hp : i < N
        · have hp' : i < xs.length := by rw [HN.out, HNN.out]; exact hp
          obtain ⟨a, hae, la, p0, p1⟩ := (HR.out wr HB.out).item hp'
          injection hae with hae
          subst hae
          have HNO2 := Lib.hid (HNO.out i hp')
          have HST2 := Lib.hid (HST.out i hp' HA.out)
          have hsm := HRG.out _ (List.getElem_mem hp')
          rw [HN.out, HNN.out] at HNO2 HST2
          obtain ⟨x, hx⟩ : ∃ x, xs[i] = x := ⟨_, rfl⟩
          rw [hx] at p0 p1 HNO2 HST2 hsm
          obtain ⟨k, n⟩ := x
          simp only at p0 p1 hsm
          have HIO := Lib.hid (fun W => impl_insok k n (N : Int) W)
          have i1 : (0 : Int) ≤ (i : Int) := by omega
          have i2 : (i : Int) < (N : Int) := by omega
          have BX := Lib.hid (HB.out.alloc HB.out.size (.cells #[.int .i64 k, .int .i64 n] 72))
          clear hx la hp' hsm HA
          cases hc : okIn N (k, n) with
          | false =>
            rw [hc] at HIO
            have HE : Hid (R = false) := Lib.hid (HNO2.out hc)
            clear hc HNO2 HST2 HB
            go_wp2_with fail
            refine (HIO.out _).mono ?_
            rintro e w2 ⟨rfl, hb2⟩
            have HB2 := Lib.hid (BX.out.trans (hb2.mono BX.out.size))
            clear hb2 BX
            go_wp2_with fail
            go_ret
            exact ⟨by rw [HE.out]; rfl, HB2.out⟩
          | true =>
            rw [hc] at HIO
            have HA2 : Hid ((xs.take (i + 1)).all (okIn xs.length) = true) := Lib.hid (by have := HST2.out hc; rw [HN.out, HNN.out]; exact this)
            clear hc HNO2 HST2 HB
            go_wp2_with fail
            refine (HIO.out _).mono ?_
            rintro e w2 ⟨rfl, hb2⟩
            have HB2 := Lib.hid (BX.out.trans (hb2.mono BX.out.size))
            clear hb2 BX
            go_wp2_with fail
            go_roundw
            case rel => exact ⟨i + 1, by go_num, by omega, HB2, HA2⟩
            case measure => simp [intOf]; omega
        · obtain rfl : i = N := by omega
          have HE : Hid (R = true) := Lib.hid (by have h := HA.out; have h2 := HEND.out; rw [HN.out, HNN.out] at h; exact (h2 (by exact_mod_cast h)).symm)
          clear HA HR HEND HNO HST
          go_wp2_with fail
          go_ret
          exact ⟨by rw [HE.out]; rfl, HB.out⟩
    · have HE : Hid (R = false) := Lib.hid (hR.symm.trans (codeOk_last (by rw [hlast]; exact h9)))
      have q9 : (k9 != 9) = true := by simpa using h9
      rw [hM]
      clear hr hrg hR hl62 h1 hM hMl hx h0 hlast h9
      go_enter Tryz.func11, Tryz.ntmps11
      go_wp2_with fail
      go_ret
      exact ⟨by rw [HE.out]; rfl, by go_grown⟩
  · have HE : Hid (R = false) := Lib.hid (hR.symm.trans (codeOk_len (by omega)))
    obtain ⟨N, hN⟩ : ∃ N, xs.length = N := ⟨_, rfl⟩
    rw [hN] at h1 h0 hl62 ⊢
    have g1 : ((N : Int) == 0) = false := by rw [beq_eq_false_iff_ne]; omega
    have g2 : (1500 : Int) < (N : Int) := by omega
    clear hr hrg hR h1 h0 hN
    go_enter Tryz.func11, Tryz.ntmps11
    go_wp2_with fail
    go_ret
    exact ⟨by rw [HE.out]; rfl, by go_grown⟩
end Go.Proofs.YtofikgjoiidhmaaGreatDoor

namespace Go.Proofs.YtofikgjoiidhmaaGreatDoor
open Go.ChangeShapes Go.WideShapes Go.ChangeAt Go.RowKit

theorem gPow : Tryz.prog.globalNamed "internal/strconv.uint64pow10" = some 2 := by kernel_rfl
theorem tPow : (Tryz.prog.globals[2]?).map (·.type) = some 202 := by kernel_rfl
theorem pow_eq : Rows.laid_internal_strconv_uint64pow10 = Lib.tabData (H := Unit) .u64 Lib.pow10Tab := by kernel_rfl
theorem cPow : Tryz.prog.cellsOf 202 = 20 := by kernel_rfl
theorem cPowE : Tryz.prog.cellsOf 191 = 1 := by kernel_rfl

abbrev tabs : List (String × DataW Unit) := [("math/bits.deBruijn32tab", Rows.laid_math_bits_deBruijn32tab), ("math/bits.deBruijn64tab", Rows.laid_math_bits_deBruijn64tab), ("internal/strconv.uint64pow10", Rows.laid_internal_strconv_uint64pow10)]

theorem pow_of_laid {W : World} {rest : List (String × DataW Unit)} (h : laidMet Tryz.prog (tabs ++ rest) W) : Lib.TabIs Tryz.prog W "internal/strconv.uint64pow10" .u64 Lib.pow10Tab := by
  have h2 := (laidMet.tail (laidMet.tail h))
  rw [pow_eq] at h2
  exact Lib.tabIs_of_head gPow tPow Tryz.underlying202 Tryz.underlying191 cPowE cPow h2
theorem tab_below {W W' : World} (h : Lib.TabIs Tryz.prog W "internal/strconv.uint64pow10" .u64 Lib.pow10Tab) (hb : Below W.heap.size W W') : Lib.TabIs Tryz.prog W' "internal/strconv.uint64pow10" .u64 Lib.pow10Tab := var?_below h hb
def debTab : List Int := [0, 1, 56, 2, 57, 49, 28, 3, 61, 58, 42, 50, 38, 29, 17, 4, 62, 47, 59, 36, 45, 43, 51, 22, 53, 39, 33, 30, 24, 18, 12, 5, 63, 55, 48, 27, 60, 41, 37, 16, 46, 35, 44, 21, 52, 32, 23, 11, 54, 26, 40, 15, 34, 20, 31, 10, 25, 14, 19, 9, 13, 8, 7, 6]
theorem gDeb : Tryz.prog.globalNamed "math/bits.deBruijn64tab" = some 4 := by kernel_rfl
theorem tDeb : (Tryz.prog.globals[4]?).map (·.type) = some 213 := by kernel_rfl
theorem deb_eq : Rows.laid_math_bits_deBruijn64tab = Lib.tabData (H := Unit) .u8 debTab := by kernel_rfl
theorem cDeb : Tryz.prog.cellsOf 213 = 64 := by kernel_rfl
theorem cDebE : Tryz.prog.cellsOf 5 = 1 := by kernel_rfl
/-- What math/bits reads of its table where it is asked for 16. -/
theorem deb_of_laid {W : World} {rest : List (String × DataW Unit)} (h : laidMet Tryz.prog (tabs ++ rest) W) : W.cell? ⟨4, 15, none⟩ = some (.int .u8 4) ∧ 4 < W.heap.size := by
  have h2 := laidMet.tail h
  rw [deb_eq] at h2
  have ht : Lib.TabIs Tryz.prog W "math/bits.deBruijn64tab" .u8 debTab := Lib.tabIs_of_head gDeb tDeb Tryz.underlying213 Tryz.underlying5 cDebE cDeb h2
  have hc : W.cell? ⟨4, 15, none⟩ = some (.int .u8 4) := ht.cell gDeb 15 (by decide)
  refine ⟨hc, ?_⟩
  rcases Nat.lt_or_ge 4 W.heap.size with hl | hl
  · exact hl
  · have e : W.heap[4]? = none := Array.getElem?_eq_none hl
    simp [World.cell?, e] at hc
/-- The door's own heap meets the condition. -/
theorem tabs_met (os : Os) (args : Array Value) : laidMetH Tryz.prog tabs ((World.doorLaid Tryz.prog 400 os).forCall (fun _ _ => 0) ⟨#[], args, []⟩).memory :=
  laidMetH_of_parts3 (fuel := 8) (laidMet_of_run' 8 (by kernel_rfl) (by kernel_rfl)) (by kernel_rfl) (by kernel_rfl)
theorem tabs_plain (W : World) : laidMetH Tryz.prog tabs W = laidMet Tryz.prog (tabs ++ []) W := MakeChecks.laidMetH_plain _ _ _ (by kernel_rfl)
end Go.Proofs.YtofikgjoiidhmaaGreatDoor

namespace Go.Proofs.YtofikgjoiidhmaaGreatDoor
open Go.ChangeShapes Go.WideShapes Go.ChangeAt Go.RowKit Go

/-- An array of texts that reads as a list of them holds these texts. -/
theorem cells_of_strsI {H : Type} {enc : TypeId × Value → H} {P : Program} {w : World} {base : Nat} {sp : Nat → Bool} {held : Bool} {fuel : Nat} {t e : TypeId} {n : Nat} {cs : List Value} {zs : List ByteArray} {p : List MemPlace} (ht : P.underlying t = some (.array n e)) (he : P.underlying e = some .string) (hce : P.cellsOf e = 1) (hct : P.cellsOf t = n)
    (h : DataW.trod enc P w base sp held fuel t cs = some (.agg (zs.map fun s => .lit (.string s.data.toList)), p)) : cs = zs.map Value.string := by
  obtain ⟨xs, m, -, hx, hl, hn, hi⟩ := DataW.trod_array ht h
  injection hx with hx _
  injection hx with hx
  have hzl : zs.length = n := by have := congrArg List.length hx; simp at this; omega
  rw [hct] at hl
  apply List.ext_getElem?
  intro i
  by_cases hin : i < n
  · have hf := hi i hin
    rw [hce, Nat.mul_one, List.getElem?_eq_getElem (by omega)] at hf
    obtain ⟨s, hc, hxs, -⟩ := DataW.trod_string he hf
    have h1 : cs[i]? = some (.string s) := by
      have := congrArg (·[0]?) hc
      simpa [List.getElem?_take, List.getElem?_drop] using this
    have h2 := congrArg (·[i]?) hx
    simp only [List.getElem?_map] at h2
    rw [List.getElem?_eq_getElem (show i < xs.length by omega), List.getElem?_eq_getElem (show i < zs.length by omega), hxs] at h2
    simp only [Option.map_some, Option.some.injEq, DataW.lit.injEq, Lit.string.injEq] at h2
    have h3 : zs[i]'(by omega) = s := Go.WideShapes.bytes_inj h2
    rw [h1, List.getElem?_map, List.getElem?_eq_getElem (by omega), h3]
    rfl
  · rw [List.getElem?_eq_none (by omega), List.getElem?_eq_none (by simp; omega)]
theorem gInsW : Tryz.prog.globalNamed "loop.example/g00711/impl.insSigns" = some 0 := by kernel_rfl
theorem tInsW : (Tryz.prog.globals[0]?).map (·.type) = some 122 := by kernel_rfl
theorem cInsW : Tryz.prog.cellsOf 122 = 10 := by kernel_rfl
theorem cInsWE : Tryz.prog.cellsOf 9 = 1 := by kernel_rfl
theorem insw_eq : Rows.laid_loop_example_g00711_impl_insSigns (H := Unit) = .agg (insL.map fun s => .lit (.string s.data.toList)) := by rfl
/-- The table of signs lies in memory. -/
def InsW (W : World) : Prop := W.var? Tryz.prog "loop.example/g00711/impl.insSigns" = some (insL.map Value.string).toArray
theorem insw_of_head {W : World} {rest : List (String × DataW Unit)} (h : laidMet Tryz.prog (("loop.example/g00711/impl.insSigns", Rows.laid_loop_example_g00711_impl_insSigns) :: rest) W) : InsW W := by
  obtain ⟨ps, ⟨g', t', cs, fuel, p, q, hg', ht', hvar, hd, _, _⟩, _⟩ := h
  obtain rfl := Option.some.inj (gInsW.symm.trans hg')
  obtain rfl := Option.some.inj (tInsW.symm.trans ht')
  rw [insw_eq] at hd
  unfold InsW
  rw [hvar, ← cells_of_strsI Tryz.underlying122 Tryz.underlying9 cInsWE cInsW hd]
theorem InsW.below {W W' : World} (h : InsW W) (hb : Below W.heap.size W W') : InsW W' := var?_below h hb
theorem InsW.cell {W : World} (h : InsW W) (i : Nat) : W.cell? ⟨0, i, none⟩ = ((insL.map Value.string).toArray)[i]? := World.var?_cell gInsW h i
end Go.Proofs.YtofikgjoiidhmaaGreatDoor

namespace Go.Proofs.YtofikgjoiidhmaaGreatDoor
open Go.RowKit

theorem impl_dectext (n : Int) (h0 : -9223372036854775808 ≤ n) (h1 : n ≤ 9223372036854775807) (w : World) (ht : Lib.TabIs Tryz.prog w "internal/strconv.uint64pow10" .u64 Lib.pow10Tab) :
    Calls Tryz.prog 39 #[.int .i64 n] w fun e w' => e = .returned (.string ⟨(Lib.itoa n).toArray⟩) ∧ Below w.heap.size w w' := by
  have HT := Lib.hid ht
  clear ht
  go_enter Tryz.func39, Tryz.ntmps39
  go_wp2_with (go_at_call 83; refine (Tryz.strconv_Itoa n h0 h1 _ HT.out).mono ?_; rintro e w' ⟨rfl, k, os, hw⟩)
  go_ret
  exact ⟨rfl, hw ▸ below_regrow w k os⟩
end Go.Proofs.YtofikgjoiidhmaaGreatDoor

namespace Go.Proofs.YtofikgjoiidhmaaGreatDoor
open Go.RowKit Go

theorem dec_size {n : Int} (h0 : -9223372036854775808 ≤ n) (h1 : n ≤ 9223372036854775807) : ByteArray.size ⟨(Lib.itoa n).toArray⟩ ≤ 21 := by
  have h2 := Lib.itoa_length_le n h0 h1
  show (Lib.itoa n).toArray.size ≤ _
  simpa using h2
theorem insTx_word {k n : Int} {s : ByteArray} (h : k = 0 ∨ k = 2 ∨ k = 3 ∨ k = 4 ∨ k = 5 ∨ k = 7) (hs : insL.getD k.toNat ⟨#[]⟩ = s) : insTx (k, n) = s ++ ⟨(Lib.itoa n).toArray⟩ := by
  unfold insTx
  rw [if_neg (by simp only; omega), if_neg (by simp only; omega), if_neg (by simp only; omega), if_neg (by simp only; omega), if_pos (by simp only; omega)]
  simp only [hs]
theorem insTx_out {k n : Int} (h : k < 0 ∨ 10 ≤ k) : insTx (k, n) = ⟨#[]⟩ := by
  unfold insTx
  rw [if_neg (by simp only; omega), if_neg (by simp only; omega), if_neg (by simp only; omega), if_neg (by simp only; omega), if_neg (by simp only; omega)]
theorem kindsT (k : Int) : (k < 0 ∨ 10 ≤ k) ∨ k = 0 ∨ k = 1 ∨ k = 2 ∨ k = 3 ∨ k = 4 ∨ k = 5 ∨ k = 6 ∨ k = 7 ∨ k = 8 ∨ k = 9 := by omega
set_option maxHeartbeats 1000000 in
theorem suffix_yes (s : ByteArray) (hs : s = ⟨#[108, 105, 116, 32]⟩ ∨ s = ⟨#[100, 111, 32]⟩ ∨ s = ⟨#[99, 97, 108, 108, 32]⟩ ∨ s = ⟨#[106, 117, 109, 112, 32]⟩ ∨ s = ⟨#[122, 101, 114, 111, 32]⟩ ∨ s = ⟨#[112, 111, 115, 32]⟩ ∨ s = ⟨#[110, 101, 120, 116, 32]⟩) (w : World) : Calls Tryz.prog 84 #[.string s, .string ⟨#[32]⟩] w fun e w' => e = .returned (.bool true) ∧ w = w' := by
  rcases hs with rfl | rfl | rfl | rfl | rfl | rfl | rfl
  all_goals
    go_enter Tryz.func84, Tryz.ntmps84
    go_wp2
    go_ret
    exact ⟨by kernel_rfl, rfl⟩
set_option maxHeartbeats 1000000 in
theorem suffix_no (s : ByteArray) (hs : s = ⟨#[102, 111, 114]⟩ ∨ s = ⟨#[114, 101, 116]⟩ ∨ s = ⟨#[101, 110, 100]⟩) (w : World) : Calls Tryz.prog 84 #[.string s, .string ⟨#[32]⟩] w fun e w' => e = .returned (.bool false) ∧ w = w' := by
  rcases hs with rfl | rfl | rfl
  all_goals
    go_enter Tryz.func84, Tryz.ntmps84
    go_wp2
    go_ret
    exact ⟨by kernel_rfl, rfl⟩
set_option maxRecDepth 100000 in
set_option maxHeartbeats 8000000 in
theorem impl_instext (k n : Int) (hn0 : -9223372036854775808 ≤ n) (hn1 : n ≤ 9223372036854775807) (w : World) (hp : Lib.TabIs Tryz.prog w "internal/strconv.uint64pow10" .u64 Lib.pow10Tab) (hg : InsW w) : Calls Tryz.prog 40 #[.agg #[.int .i64 k, .int .i64 n]] w fun e w' => e = .returned (.string (insTx (k, n))) ∧ Below w.heap.size w w' := by
  have BX : Hid (Below w.heap.size w (w.alloc (.cells #[.int .i64 k, .int .i64 n] 72))) := Lib.hid (below_alloc1 w _)
  have KX := Lib.hid (fun W (h : Below (w.alloc (.cells #[.int .i64 k, .int .i64 n] 72)).heap.size (w.alloc (.cells #[.int .i64 k, .int .i64 n] 72)) W) => ((Blk.new w 72 #[.int .i64 k, .int .i64 n]).below h (Blk.new w 72 #[.int .i64 k, .int .i64 n]).lt))
  have HPW := Lib.hid (fun W (h : Below w.heap.size w W) => tab_below hp h)
  have HSG := Lib.hid (fun W (h : Below w.heap.size w W) => hg.below h)
  have HD := Lib.hid (fun W (h : Below w.heap.size w W) => impl_dectext n hn0 hn1 W (HPW.out W h))
  have HDS := dec_size hn0 hn1
  clear hp hg
  rcases kindsT k with h | rfl | rfl | rfl | rfl | rfl | rfl | rfl | rfl | rfl | rfl
  · rw [insTx_out h]
    clear HD HDS KX
    rcases h with h | h
    · go_enter Tryz.func40, Tryz.ntmps40
      go_wp2_with fail
      go_ret
      exact ⟨rfl, BX.out⟩
    · have h2 : ¬ k < 0 := by omega
      go_enter Tryz.func40, Tryz.ntmps40
      go_wp2_with fail
      go_ret
      exact ⟨rfl, BX.out⟩
  · rw [insTx_word (s := ⟨#[108, 105, 116, 32]⟩) (by omega) rfl]
    have HD2 := Lib.hid (HD.out _ BX.out)
    obtain ⟨d, hd⟩ : ∃ d : ByteArray, ⟨(Lib.itoa n).toArray⟩ = d := ⟨_, rfl⟩
    rw [hd] at HD2 HDS ⊢
    clear KX hd HD
    have s0 : (w.alloc (.cells #[.int .i64 0, .int .i64 n] 72)).cell? ⟨0, 0, none⟩ = some (.string ⟨#[108, 105, 116, 32]⟩) := (HSG.out _ BX.out).cell 0
    go_enter Tryz.func40, Tryz.ntmps40
    go_wp2_with fail
    refine (suffix_yes ⟨#[108, 105, 116, 32]⟩ (by simp) _).mono ?_
    rintro e w2 ⟨rfl, rfl⟩
    go_wp2_with fail
    refine HD2.out.mono ?_
    rintro e w2 ⟨rfl, hb2⟩
    have HB2 := Lib.hid (BX.out.trans (hb2.mono BX.out.size))
    clear hb2 BX s0
    go_wp2_with fail
    go_ret
    exact ⟨rfl, HB2.out⟩
  · have HP := Lib.hid (fun W => impl_primname n W)
    have HB := Lib.hid (fun W => isbuiltin_any n W)
    have hps := primN_size2 n
    have ht : insTx (1, n) = if inB n 0 23 = true then ⟨#[100, 111, 32]⟩ ++ primN n else ⟨#[]⟩ := by unfold insTx inB; simp
    rw [ht]
    obtain ⟨b, hb⟩ : ∃ b, inB n 0 23 = b := ⟨_, rfl⟩
    rw [hb] at HB ⊢
    obtain ⟨nm, hnm⟩ : ∃ nm, primN n = nm := ⟨_, rfl⟩
    rw [hnm] at HP hps ⊢
    clear HD HDS KX ht hb hnm
    have s0 : (w.alloc (.cells #[.int .i64 1, .int .i64 n] 72)).cell? ⟨0, 1, none⟩ = some (.string ⟨#[100, 111, 32]⟩) := (HSG.out _ BX.out).cell 1
    cases b with
    | true =>
      rw [if_pos rfl]
      go_enter Tryz.func40, Tryz.ntmps40
      go_wp2_with fail
      refine (suffix_yes ⟨#[100, 111, 32]⟩ (by simp) _).mono ?_
      rintro e w2 ⟨rfl, rfl⟩
      go_wp2_with fail
      refine (HB.out _).mono ?_
      rintro e w2 ⟨rfl, rfl⟩
      go_wp2_with fail
      refine (HP.out _).mono ?_
      rintro e w2 ⟨rfl, hb2⟩
      have HB2 := Lib.hid (BX.out.trans (hb2.mono BX.out.size))
      clear hb2 BX s0
      go_wp2_with fail
      go_ret
      exact ⟨rfl, HB2.out⟩
    | false =>
      rw [if_neg (by decide)]
      go_enter Tryz.func40, Tryz.ntmps40
      go_wp2_with fail
      refine (suffix_yes ⟨#[100, 111, 32]⟩ (by simp) _).mono ?_
      rintro e w2 ⟨rfl, rfl⟩
      go_wp2_with fail
      refine (HB.out _).mono ?_
      rintro e w2 ⟨rfl, rfl⟩
      go_wp2_with fail
      go_ret
      exact ⟨rfl, BX.out⟩
  · rw [insTx_word (s := ⟨#[99, 97, 108, 108, 32]⟩) (by omega) rfl]
    have HD2 := Lib.hid (HD.out _ BX.out)
    obtain ⟨d, hd⟩ : ∃ d : ByteArray, ⟨(Lib.itoa n).toArray⟩ = d := ⟨_, rfl⟩
    rw [hd] at HD2 HDS ⊢
    clear KX hd HD
    have s0 : (w.alloc (.cells #[.int .i64 2, .int .i64 n] 72)).cell? ⟨0, 2, none⟩ = some (.string ⟨#[99, 97, 108, 108, 32]⟩) := (HSG.out _ BX.out).cell 2
    go_enter Tryz.func40, Tryz.ntmps40
    go_wp2_with fail
    refine (suffix_yes ⟨#[99, 97, 108, 108, 32]⟩ (by simp) _).mono ?_
    rintro e w2 ⟨rfl, rfl⟩
    go_wp2_with fail
    refine HD2.out.mono ?_
    rintro e w2 ⟨rfl, hb2⟩
    have HB2 := Lib.hid (BX.out.trans (hb2.mono BX.out.size))
    clear hb2 BX s0
    go_wp2_with fail
    go_ret
    exact ⟨rfl, HB2.out⟩
  · rw [insTx_word (s := ⟨#[106, 117, 109, 112, 32]⟩) (by omega) rfl]
    have HD2 := Lib.hid (HD.out _ BX.out)
    obtain ⟨d, hd⟩ : ∃ d : ByteArray, ⟨(Lib.itoa n).toArray⟩ = d := ⟨_, rfl⟩
    rw [hd] at HD2 HDS ⊢
    clear KX hd HD
    have s0 : (w.alloc (.cells #[.int .i64 3, .int .i64 n] 72)).cell? ⟨0, 3, none⟩ = some (.string ⟨#[106, 117, 109, 112, 32]⟩) := (HSG.out _ BX.out).cell 3
    go_enter Tryz.func40, Tryz.ntmps40
    go_wp2_with fail
    refine (suffix_yes ⟨#[106, 117, 109, 112, 32]⟩ (by simp) _).mono ?_
    rintro e w2 ⟨rfl, rfl⟩
    go_wp2_with fail
    refine HD2.out.mono ?_
    rintro e w2 ⟨rfl, hb2⟩
    have HB2 := Lib.hid (BX.out.trans (hb2.mono BX.out.size))
    clear hb2 BX s0
    go_wp2_with fail
    go_ret
    exact ⟨rfl, HB2.out⟩
  · rw [insTx_word (s := ⟨#[122, 101, 114, 111, 32]⟩) (by omega) rfl]
    have HD2 := Lib.hid (HD.out _ BX.out)
    obtain ⟨d, hd⟩ : ∃ d : ByteArray, ⟨(Lib.itoa n).toArray⟩ = d := ⟨_, rfl⟩
    rw [hd] at HD2 HDS ⊢
    clear KX hd HD
    have s0 : (w.alloc (.cells #[.int .i64 4, .int .i64 n] 72)).cell? ⟨0, 4, none⟩ = some (.string ⟨#[122, 101, 114, 111, 32]⟩) := (HSG.out _ BX.out).cell 4
    go_enter Tryz.func40, Tryz.ntmps40
    go_wp2_with fail
    refine (suffix_yes ⟨#[122, 101, 114, 111, 32]⟩ (by simp) _).mono ?_
    rintro e w2 ⟨rfl, rfl⟩
    go_wp2_with fail
    refine HD2.out.mono ?_
    rintro e w2 ⟨rfl, hb2⟩
    have HB2 := Lib.hid (BX.out.trans (hb2.mono BX.out.size))
    clear hb2 BX s0
    go_wp2_with fail
    go_ret
    exact ⟨rfl, HB2.out⟩
  · rw [insTx_word (s := ⟨#[112, 111, 115, 32]⟩) (by omega) rfl]
    have HD2 := Lib.hid (HD.out _ BX.out)
    obtain ⟨d, hd⟩ : ∃ d : ByteArray, ⟨(Lib.itoa n).toArray⟩ = d := ⟨_, rfl⟩
    rw [hd] at HD2 HDS ⊢
    clear KX hd HD
    have s0 : (w.alloc (.cells #[.int .i64 5, .int .i64 n] 72)).cell? ⟨0, 5, none⟩ = some (.string ⟨#[112, 111, 115, 32]⟩) := (HSG.out _ BX.out).cell 5
    go_enter Tryz.func40, Tryz.ntmps40
    go_wp2_with fail
    refine (suffix_yes ⟨#[112, 111, 115, 32]⟩ (by simp) _).mono ?_
    rintro e w2 ⟨rfl, rfl⟩
    go_wp2_with fail
    refine HD2.out.mono ?_
    rintro e w2 ⟨rfl, hb2⟩
    have HB2 := Lib.hid (BX.out.trans (hb2.mono BX.out.size))
    clear hb2 BX s0
    go_wp2_with fail
    go_ret
    exact ⟨rfl, HB2.out⟩
  · rw [show insTx (6, n) = ⟨#[102, 111, 114]⟩ from rfl]
    clear HD HDS KX
    have s0 : (w.alloc (.cells #[.int .i64 6, .int .i64 n] 72)).cell? ⟨0, 6, none⟩ = some (.string ⟨#[102, 111, 114]⟩) := (HSG.out _ BX.out).cell 6
    go_enter Tryz.func40, Tryz.ntmps40
    go_wp2_with fail
    refine (suffix_no ⟨#[102, 111, 114]⟩ (by simp) _).mono ?_
    rintro e w2 ⟨rfl, rfl⟩
    go_wp2_with fail
    go_ret
    exact ⟨rfl, BX.out⟩
  · rw [insTx_word (s := ⟨#[110, 101, 120, 116, 32]⟩) (by omega) rfl]
    have HD2 := Lib.hid (HD.out _ BX.out)
    obtain ⟨d, hd⟩ : ∃ d : ByteArray, ⟨(Lib.itoa n).toArray⟩ = d := ⟨_, rfl⟩
    rw [hd] at HD2 HDS ⊢
    clear KX hd HD
    have s0 : (w.alloc (.cells #[.int .i64 7, .int .i64 n] 72)).cell? ⟨0, 7, none⟩ = some (.string ⟨#[110, 101, 120, 116, 32]⟩) := (HSG.out _ BX.out).cell 7
    go_enter Tryz.func40, Tryz.ntmps40
    go_wp2_with fail
    refine (suffix_yes ⟨#[110, 101, 120, 116, 32]⟩ (by simp) _).mono ?_
    rintro e w2 ⟨rfl, rfl⟩
    go_wp2_with fail
    refine HD2.out.mono ?_
    rintro e w2 ⟨rfl, hb2⟩
    have HB2 := Lib.hid (BX.out.trans (hb2.mono BX.out.size))
    clear hb2 BX s0
    go_wp2_with fail
    go_ret
    exact ⟨rfl, HB2.out⟩
  · rw [show insTx (8, n) = ⟨#[114, 101, 116]⟩ from rfl]
    clear HD HDS KX
    have s0 : (w.alloc (.cells #[.int .i64 8, .int .i64 n] 72)).cell? ⟨0, 8, none⟩ = some (.string ⟨#[114, 101, 116]⟩) := (HSG.out _ BX.out).cell 8
    go_enter Tryz.func40, Tryz.ntmps40
    go_wp2_with fail
    refine (suffix_no ⟨#[114, 101, 116]⟩ (by simp) _).mono ?_
    rintro e w2 ⟨rfl, rfl⟩
    go_wp2_with fail
    go_ret
    exact ⟨rfl, BX.out⟩
  · rw [show insTx (9, n) = ⟨#[101, 110, 100]⟩ from rfl]
    clear HD HDS KX
    have s0 : (w.alloc (.cells #[.int .i64 9, .int .i64 n] 72)).cell? ⟨0, 9, none⟩ = some (.string ⟨#[101, 110, 100]⟩) := (HSG.out _ BX.out).cell 9
    go_enter Tryz.func40, Tryz.ntmps40
    go_wp2_with fail
    refine (suffix_no ⟨#[101, 110, 100]⟩ (by simp) _).mono ?_
    rintro e w2 ⟨rfl, rfl⟩
    go_wp2_with fail
    go_ret
    exact ⟨rfl, BX.out⟩
end Go.Proofs.YtofikgjoiidhmaaGreatDoor

namespace Go.Proofs.YtofikgjoiidhmaaGreatDoor
open Go.RowKit Go

theorem infoStrL : (Tryz.prog.info? 9).map (fun i => (i.zero, i.size, i.bytes)) = some (some (.string ⟨#[]⟩), 1, 16) := by kernel_rfl
/-- The lines of a listing, as strings. -/
def lineB (xs : List (Int × Int)) : List ByteArray := (linesL 0 xs).map fun x => ⟨x.toArray⟩
theorem lineB_len (xs : List (Int × Int)) : (lineB xs).length = xs.length := by simp [lineB, linesL_len]
theorem lineB_get {xs : List (Int × Int)} {i : Nat} (h : i < xs.length) : (lineB xs)[i]? = some ⟨(lineL i xs[i]).toArray⟩ := by
  unfold lineB
  rw [List.getElem?_map, linesL_get h]
  simp
theorem lineB_data (xs : List (Int × Int)) : (lineB xs).map (·.data.toList) = linesL 0 xs := by
  unfold lineB
  rw [List.map_map]
  exact List.map_id'' (fun _ => rfl) _
theorem joinTail_none (L : List (List UInt8)) : Lib.joinTail [] L = L.flatten := by
  simp [Lib.joinTail]
theorem join_none (L : List (List UInt8)) : Lib.join L [] = L.flatten := by
  cases L with
  | nil => rfl
  | cons x r => rw [Lib.join_cons, joinTail_none]; rfl
theorem line_cat (i : Nat) (o : Int × Int) : ((((⟨(Lib.itoa (i : Int)).toArray⟩ : ByteArray) ++ ⟨#[32]⟩) ++ insTx o) ++ ⟨#[10]⟩) = ⟨(lineL i o).toArray⟩ := by
  have key : ∀ a b : ByteArray, a.data.toList = b.data.toList → a = b := fun a b h => by
    cases a; cases b
    simp only [ByteArray.mk.injEq]
    exact Array.toList_inj.1 h
  apply key
  simp [lineL]
theorem line_size {i : Nat} {o : Int × Int} (hi : i ≤ 1500) (h0 : -9223372036854775808 ≤ o.2) (h1 : o.2 ≤ 9223372036854775807) : (lineL i o).length ≤ 63 := by
  have h2 := Lib.itoa_length_le (i : Int) (by omega) (by omega)
  have h3 := insTx_size h0 h1
  have h4 : (insTx o).data.toList.length ≤ 40 := by simpa using h3
  unfold lineL
  simp only [List.length_append, List.length_cons, List.length_nil]
  omega
theorem lens_leL {c : Nat} {xs : List (List UInt8)} (h : ∀ x ∈ xs, x.length ≤ c) : xs.flatten.length ≤ xs.length * c := by
  induction xs with
  | nil => simp
  | cons x r ih =>
    have h1 := ih (fun y hy => h y (List.mem_cons_of_mem _ hy))
    have h2 := h x (List.mem_cons_self ..)
    simp only [List.flatten_cons, List.length_append, List.length_cons, Nat.add_mul]
    omega
theorem linesL_fit : ∀ (xs : List (Int × Int)) (a : Nat), RngC xs → a + xs.length ≤ 1500 → ∀ x ∈ linesL a xs, x.length ≤ 63
  | [], a, _, _ => by intro x hx; simp [linesL] at hx
  | o :: r, a, h, hl => by
    intro x hx
    simp only [List.length_cons] at hl
    rcases List.mem_cons.1 hx with rfl | hx
    · have := (h o (List.mem_cons_self ..)).2
      exact line_size (by omega) this.1 this.2
    · exact linesL_fit r (a + 1) (fun p hp => h p (List.mem_cons_of_mem _ hp)) (by omega) x hx
theorem row_stayL {w w' : World} {base size : Nat} {e : TypeId} {v : Value} {n : Nat} {xs : List Value} (h : w.ownsRow base e size v n xs) (hb : Below w.heap.size w w') : w'.ownsRow base e size v n xs :=
  h.kept (row := none) (only_of_below hb none) (by cases v.ownBlock <;> simp)
theorem own_posL {w : World} {base size : Nat} {e : TypeId} {v : Value} {n : Nat} {xs : List Value} (h : w.ownsRow base e size v n xs) (hn : 0 < n) : ∃ q cap, v = .slice (some ⟨q, 0, none⟩) n cap ∧ n ≤ cap ∧ q < w.heap.size ∧ base ≤ q := by
  rcases h.2 with ⟨rfl, h0⟩ | ⟨g, cap, cur, rfl, hb, hg, hc, -⟩
  · omega
  · exact ⟨g, cap, rfl, hc, (Array.getElem?_eq_some_iff.1 hg).1, hb⟩
theorem row_nil (w : World) (base : Nat) (e : TypeId) : w.ownsRow base e 1 (.slice none 0 0) 0 [] := World.ownsRow_nil _ _ _ _

set_option maxRecDepth 100000 in
set_option maxHeartbeats 8000000 in
theorem impl_listing (xs : List (Int × Int)) (hrg : RngC xs) (v : Value) (w : World) (hr : RdIc w v xs) (hp : Lib.TabIs Tryz.prog w "internal/strconv.uint64pow10" .u64 Lib.pow10Tab) (hg : InsW w) : Calls Tryz.prog 13 #[v] w fun e w' => e = .returned (.string (listTx xs)) ∧ Below w.heap.size w w' := by
  have HC := Lib.hid (impl_codeok xs hrg v w hr)
  have HR := Lib.hid (fun W (h : Below w.heap.size w W) => hr.below h)
  obtain ⟨A, cap, rfl⟩ := hr.form
  have HPW := Lib.hid (fun W (h : Below w.heap.size w W) => tab_below hp h)
  have HSG := Lib.hid (fun W (h : Below w.heap.size w W) => hg.below h)
  clear hp hg
  cases hok : codeOk xs with
  | false =>
    rw [hok] at HC
    have ht : listTx xs = ⟨#[]⟩ := by unfold listTx; rw [if_neg (by rw [hok]; simp)]
    rw [ht]
    obtain ⟨N, hN⟩ : ∃ N, xs.length = N := ⟨_, rfl⟩
    rw [hN] at HC ⊢
    clear hr hrg hok ht HR hN
    go_enter Tryz.func13, Tryz.ntmps13
    go_wp2_with fail
    refine HC.out.mono ?_
    rintro e w2 ⟨rfl, hb2⟩
    have HB2 := Lib.hid hb2
    clear hb2
    go_wp2_with fail
    go_ret
    exact ⟨rfl, HB2.out⟩
  | true =>
    rw [hok] at HC
    obtain ⟨hlen, -, -⟩ := codeOk_parts hok
    have ht : listTx xs = ⟨(linesL 0 xs).flatten.toArray⟩ := by unfold listTx; rw [if_pos hok]
    rw [ht, ← join_none, ← lineB_data]
    have HJF : Hid ((Lib.join ((lineB xs).map (·.data.toList)) []).length ≤ 140737488355328) := Lib.hid (by
      rw [join_none, lineB_data]
      have h1 := lens_leL (linesL_fit xs 0 hrg (by omega))
      rw [linesL_len] at h1
      omega)
    have HTG := Lib.hid (fun i (h : i < xs.length) => lineB_get h)
    have HTL := Lib.hid (lineB_len xs)
    have HDEC := Lib.hid (fun (i : Nat) (hi : i ≤ 1500) W (h : Below w.heap.size w W) => impl_dectext (i : Int) (by omega) (by omega) W (HPW.out W h))
    have HDSZ := Lib.hid (fun (i : Nat) (hi : i ≤ 1500) => dec_size (n := (i : Int)) (by omega) (by omega))
    have HIT := Lib.hid (fun k n (h0 : -9223372036854775808 ≤ n) (h1 : n ≤ 9223372036854775807) W (h : Below w.heap.size w W) => impl_instext k n h0 h1 W (HPW.out W h) (HSG.out W h))
    have HRG := Lib.hid hrg
    obtain ⟨T, hT⟩ : ∃ T, lineB xs = T := ⟨_, rfl⟩
    rw [hT] at HJF HTG HTL ⊢
    obtain ⟨N, hN⟩ : ∃ N, xs.length = N := ⟨_, rfl⟩
    have HN := Lib.hid hN
    rw [hN] at HC HTL hlen ⊢
    obtain ⟨i0, hi0, hz0, hz1, hz2⟩ := info_parts infoStrL
    obtain ⟨hl1, hl2⟩ := hlen
    clear hr hrg hok ht hN hT HPW HSG
    go_enter Tryz.func13, Tryz.ntmps13
    go_wp2_with fail
    refine HC.out.mono ?_
    rintro e w2 ⟨rfl, hb2⟩
    have HB2 := Lib.hid hb2
    clear hb2 HC
    go_wp2_with fail
    go_loopw [3, 11] (fun vo vi wr => ∃ (i : Nat), vi = .int .i64 i ∧ i ≤ N ∧ wr.ownsRow w.heap.size 9 1 vo i ((T.take i).map Value.string) ∧ Hid (Below w.heap.size w wr)) (fun _ vi _ => N - (intOf vi).toNat)
    case atStart => exact ⟨0, rfl, by omega, row_nil _ _ _, HB2⟩
    case round =>
      obtain ⟨i, rfl, hi, ho, HB⟩ := hrel
      clear HB2
      by_cases hp : i < N
      · have hp' : i < xs.length := by rw [HN.out]; exact hp
        obtain ⟨a, rfl, la, p0, p1⟩ := (HR.out wr HB.out).item hp'
        have htg := HTG.out i hp'
        have hrng := HRG.out _ (List.getElem_mem hp')
        obtain ⟨x, hx⟩ : ∃ x, xs[i] = x := ⟨_, rfl⟩
        rw [hx] at p0 p1 htg hrng
        obtain ⟨k, n⟩ := x
        simp only at p0 p1 hrng
        have HD := Lib.hid (HDEC.out i (by omega))
        have hds := HDSZ.out i (by omega)
        have HI := Lib.hid (HIT.out k n hrng.2.1 hrng.2.2)
        have hts := insTx_size (o := (k, n)) hrng.2.1 hrng.2.2
        have hcat := line_cat i (k, n)
        obtain ⟨d, hd⟩ : ∃ d : ByteArray, ⟨(Lib.itoa (i : Int)).toArray⟩ = d := ⟨_, rfl⟩
        obtain ⟨t, ht⟩ : ∃ t, insTx (k, n) = t := ⟨_, rfl⟩
        obtain ⟨ln, hln⟩ : ∃ ln : ByteArray, ⟨(lineL i (k, n)).toArray⟩ = ln := ⟨_, rfl⟩
        rw [hd] at HD hds hcat
        rw [ht] at HI hts hcat
        rw [hln] at hcat htg
        have HCAT := Lib.hid hcat
        have c1 : ¬ 9223372036854775807 < d.size + 1 := by omega
        have c2 : ¬ 9223372036854775807 < d.size + 1 + t.size := by omega
        have c3 : ¬ 9223372036854775807 < d.size + 1 + t.size + 1 := by omega
        have HTK : Hid ((T.take (i + 1)).map Value.string = (T.take i).map Value.string ++ [.string ln]) := Lib.hid (by rw [List.take_add_one, htg]; simp)
        have HO := Lib.hid ho
        have HB0 := Lib.hid (HB.out.alloc HB.out.size (.cells #[.int .i64 k, .int .i64 n] 72)).drew
        have KXB := Lib.hid (fun W (h : Below (wr.alloc (.cells #[.int .i64 k, .int .i64 n] 72)).heap.size (wr.alloc (.cells #[.int .i64 k, .int .i64 n] 72)).drew W) => ((Blk.new wr 72 #[.int .i64 k, .int .i64 n]).drew.below h (Blk.new wr 72 #[.int .i64 k, .int .i64 n]).lt))
        have KX := Lib.hid (fun W (h : Below (wr.alloc (.cells #[.int .i64 k, .int .i64 n] 72)).heap.size (wr.alloc (.cells #[.int .i64 k, .int .i64 n] 72)).drew W) => (show W.cell? ⟨wr.heap.size, 0, none⟩ = some (.int .i64 k) ∧ W.cell? ⟨wr.heap.size, 1, none⟩ = some (.int .i64 n) from by
          have hk := ((Blk.new wr 72 #[.int .i64 k, .int .i64 n]).drew.below h (Blk.new wr 72 #[.int .i64 k, .int .i64 n]).lt)
          exact ⟨hk.cell 0, hk.cell 1⟩))
        have i1 : (0 : Int) ≤ (i : Int) := by omega
        have i2 : (i : Int) < (N : Int) := by omega
        have HONE : Hid (∀ u ∈ [Value.string (d ++ ⟨#[32]⟩ ++ t ++ ⟨#[10]⟩)], u.oneCell' = true) := Lib.hid (by simp [Value.oneCell'])
        have HM1 : Hid (i + 1 ≤ maxLen) := Lib.hid (by unfold maxLen; omega)
        have HM2 : Hid ((i + 1) * 16 ≤ 140737488355328) := Lib.hid (by omega)
        have KC0 := Lib.hid (KX.out _ (Below.refl _ _))
        clear hx htg hrng hcat hd ht hln hp' la ho HTG hds hts
        go_wp2_with fail
        go_region_held3 (fun w' => w'.cell? ⟨wr.heap.size, 0, none⟩ = some (.int .i64 k) ∧ w'.cell? ⟨wr.heap.size, 1, none⟩ = some (.int .i64 n)) (first | exact KC0.out | exact KX.out _ hb4 | exact KX.out _ hb5 | exact KX.out _ hb6 | exact hcA)
          (first
            | (go_at_call 39; refine (HD.out _ HB0.out).mono ?_; rintro e w4 ⟨rfl, hb4⟩)
            | (go_at_call 40; refine (HI.out _ (HB0.out.trans (hb4.mono HB0.out.size))).mono ?_; rintro e w5 ⟨rfl, hb5x⟩; have hb5 := hb4.trans (hb5x.mono hb4.size); have hb6 := hb5.alloc hb5.size (.cells #[.string (d ++ ⟨#[32]⟩ ++ t ++ ⟨#[10]⟩)] 9); have hro := (row_stayL ((HO.out.alloc (.cells #[.int .i64 k, .int .i64 n] 72)).drew) hb5).alloc (.cells #[.string (d ++ ⟨#[32]⟩ ++ t ++ ⟨#[10]⟩)] 9); have hnw := cell_one_new w5 (.string (d ++ ⟨#[32]⟩ ++ t ++ ⟨#[10]⟩)) 9; have hsz := (HB0.out.trans (hb6.mono HB0.out.size)).size)
            | (refine wp_append_own _ (.tmp 16) (.tmp 24) 33 rfl w.heap.size 9 i0 (.string ⟨#[]⟩) 1 16 Tryz.underlying33 hi0 hz0 hz1 hz2 rfl (by decide) _ i _ rfl hro _ 1 1 _ rfl rfl hnw HONE.out HM1.out HM2.out hsz ?_; intro v9 w9 ho9 hg9 hif; clear hif; have hcA : w9.cell? ⟨wr.heap.size, 0, none⟩ = some (.int .i64 k) ∧ w9.cell? ⟨wr.heap.size, 1, none⟩ = some (.int .i64 n) := (by have hk := (KXB.out _ hb6).grown hg9 (fun e => by have := (World.ownsRow.lt HO.out _ e.symm).2; omega); exact ⟨hk.cell 0, hk.cell 1⟩)))
        have HB9 : Hid (Below w.heap.size w w9) := Lib.hid ((HB0.out.trans (hb6.mono HB0.out.size)).grown hg9 hsz (fun q hq => (World.ownsRow.lt HO.out q hq).1))
        have HR9 : Hid (w9.ownsRow w.heap.size 9 1 v9 (i + 1) ((T.take (i + 1)).map Value.string)) := Lib.hid (by
          rw [HTK.out, ← HCAT.out]
          exact ho9)
        clear ho9 hg9 hcA hnw hro hb6 hb5 hb5x hb4 hsz HO HB HCAT HTK KX KXB KC0 HB0 p0 p1
        go_wp2_with fail
        go_roundw
        case rel => exact ⟨i + 1, by go_num, by omega, HR9.out, HB9⟩
        case measure => simp [intOf]; omega
      · obtain rfl : i = N := by omega
        have e0 : T.take i = T := List.take_of_length_le (by rw [HTL.out]; omega)
        rw [e0] at ho
        obtain ⟨q, gc, rfl, hgc, hq, -⟩ := own_posL ho hl1
        have HJ := Lib.hid (Tryz.strings_Join q 0 gc T ⟨#[]⟩ wr (fun j x hx => by
          have hj : j < i := by rw [← HTL.out]; exact (List.getElem?_eq_some_iff.1 hx).1
          rw [Nat.zero_add, ho.cellAt j (by omega), List.getElem?_map, hx]
          rfl) hq (by rw [HTL.out]; omega) (by rw [HTL.out]; exact hgc) HJF.out)
        rw [HTL.out] at HJ
        clear ho e0 hgc hq
        go_wp2_with fail
        refine HJ.out.mono ?_
        rintro e w4 ⟨rfl, hb4⟩
        have HB4 := Lib.hid (HB.out.trans (hb4.mono HB.out.size))
        clear hb4 HB HJ
        go_wp2_with fail
        go_ret
        exact ⟨rfl, HB4.out⟩
end Go.Proofs.YtofikgjoiidhmaaGreatDoor

namespace Go.Proofs.YtofikgjoiidhmaaGreatDoor

/-- The parts between the bytes that cut, empty ones too; there is always one. -/
def splitB (p : UInt8 → Bool) : List UInt8 → List (List UInt8)
  | [] => [[]]
  | c :: r => if p c then [] :: splitB p r else match splitB p r with
    | [] => [[c]]
    | x :: xs => (c :: x) :: xs
theorem splitB_ne (p : UInt8 → Bool) : ∀ l, splitB p l ≠ []
  | [] => by simp [splitB]
  | c :: r => by
    unfold splitB
    split
    · simp
    · split <;> simp
theorem splitB_none (p : UInt8 → Bool) : ∀ l : List UInt8, (∀ c ∈ l, p c = false) → splitB p l = [l]
  | [], _ => rfl
  | c :: r, h => by
    rw [splitB, if_neg (by rw [h c (by simp)]; simp), splitB_none p r (fun x hx => h x (by simp [hx]))]
theorem splitB_cut (p : UInt8 → Bool) : ∀ (a : List UInt8) (c : UInt8) (r : List UInt8), (∀ x ∈ a, p x = false) → p c = true → splitB p (a ++ c :: r) = a :: splitB p r
  | [], c, r, _, hc => by rw [List.nil_append, splitB, if_pos hc]
  | x :: a, c, r, ha, hc => by
    rw [List.cons_append, splitB, if_neg (by rw [ha x (by simp)]; simp), splitB_cut p a c r (fun y hy => ha y (by simp [hy])) hc]
theorem splitB_length (p : UInt8 → Bool) : ∀ l : List UInt8, (splitB p l).length ≤ l.length + 1
  | [] => by simp [splitB]
  | c :: r => by
    have := splitB_length p r
    rw [splitB]
    split
    · simp; omega
    · split
      · simp
      · rename_i x xs h
        rw [h] at this
        simp at this ⊢; omega

/-- What lies from a place on, up to a place at which it is cut. -/
theorem split_at {p : UInt8 → Bool} {l : List UInt8} {f a : Nat} (hfa : f ≤ a) (ha : a < l.length) (hn : ∀ j (h : j < l.length), f ≤ j → j < a → p l[j] = false) (hc : p l[a] = true) : splitB p (l.drop f) = (l.drop f).take (a - f) :: splitB p (l.drop (a + 1)) := by
  have e : l.drop f = (l.drop f).take (a - f) ++ l[a] :: l.drop (a + 1) := by
    conv => lhs; rw [← List.take_append_drop (a - f) (l.drop f)]
    rw [List.drop_drop, show f + (a - f) = a by omega, List.drop_eq_getElem_cons ha]
  conv => lhs; rw [e]
  refine splitB_cut p _ _ _ (fun x hx => ?_) hc
  obtain ⟨i, hi, rfl⟩ := List.getElem_of_mem hx
  simp at hi
  rw [List.getElem_take, List.getElem_drop]
  exact hn _ _ (by omega) (by omega)
theorem split_rest {p : UInt8 → Bool} {l : List UInt8} {f : Nat} (hn : ∀ j (h : j < l.length), f ≤ j → p l[j] = false) : splitB p (l.drop f) = [l.drop f] := by
  refine splitB_none p _ (fun x hx => ?_)
  obtain ⟨i, hi, rfl⟩ := List.getElem_of_mem hx
  rw [List.getElem_drop]
  exact hn _ _ (by omega)

/-- A sign of several bytes: none of them is below 128. -/
theorem decode_cont (s : ByteArray) (i : Nat) (_ : i < s.size) : ∀ j (hj : j < s.size), i < j → j < i + (Utf8.decode s i).2 → 128 ≤ s[j].toNat := by
  intro j hj h1 h2
  have g : ∀ k (hk : k < s.size), (s.get! k) = s[k] := fun k hk => by
    show s.data[k]! = s.data[k]
    exact getElem!_pos s.data k hk
  rw [Lib.decode_at] at h2
  have c1 : j = i + 1 ∨ j = i + 2 ∨ j = i + 3 ∨ i + 4 ≤ j := by omega
  have hn : ∀ b0 b1 b2 b3, (Lib.decodeN (s.size - i) b0 b1 b2 b3).2 = 1 ∨ ((Lib.decodeN (s.size - i) b0 b1 b2 b3).2 = 2 ∧ b1 / 64 = 2) ∨ ((Lib.decodeN (s.size - i) b0 b1 b2 b3).2 = 3 ∧ b1 / 64 = 2 ∧ b2 / 64 = 2) ∨ ((Lib.decodeN (s.size - i) b0 b1 b2 b3).2 = 4 ∧ b1 / 64 = 2 ∧ b2 / 64 = 2 ∧ b3 / 64 = 2) := by
    intro b0 b1 b2 b3
    unfold Lib.decodeN
    repeat' split
    all_goals simp_all
  rcases hn (s.get! i).toNat (s.get! (i + 1)).toNat (s.get! (i + 2)).toNat (s.get! (i + 3)).toNat with e | ⟨e, e1⟩ | ⟨e, e1, e2⟩ | ⟨e, e1, e2, e3⟩ <;> rw [e] at h2
  · omega
  · obtain rfl : j = i + 1 := by omega
    rw [g _ hj] at e1; omega
  · rcases c1 with rfl | rfl | rfl | c1
    · rw [g _ hj] at e1; omega
    · rw [g _ hj] at e2; omega
    · omega
    · omega
  · rcases c1 with rfl | rfl | rfl | c1
    · rw [g _ hj] at e1; omega
    · rw [g _ hj] at e2; omega
    · rw [g _ hj] at e3; omega
    · omega
theorem decode_fits (s : ByteArray) (i : Nat) (h : i < s.size) : i + (Utf8.decode s i).2 ≤ s.size := by
  rw [Lib.decode_at]
  have hn : ∀ n b0 b1 b2 b3, 1 ≤ n → (Lib.decodeN n b0 b1 b2 b3).2 ≤ n := by
    intro n b0 b1 b2 b3 h1
    unfold Lib.decodeN
    repeat' split
    all_goals simp_all
    all_goals omega
  have := hn (s.size - i) (s.get! i).toNat (s.get! (i + 1)).toNat (s.get! (i + 2)).toNat (s.get! (i + 3)).toNat (by omega)
  omega
end Go.Proofs.YtofikgjoiidhmaaGreatDoor

namespace Go.Proofs.YtofikgjoiidhmaaGreatDoor
open Go.RowKit Go.Shelf Go

attribute [local go_sem] Oper.semAt_some

theorem clone_any (s : ByteArray) (w : World) (hlim : s.size ≤ 281474976710656) :
    Calls Tryz.prog 82 #[.string s] w fun e w' => e = .returned (.string s) ∧ Below w.heap.size w w' := by
  go_enter Tryz.func82, Tryz.ntmps82
  go_wp2_with (go_at_call 141; refine (Tryz.stringslite_Clone _ _ hlim).mono ?_; rintro e w' ⟨rfl, hb⟩)
  go_ret
  exact ⟨rfl, hb⟩

/-- What a function value that tells which signs cut answers. -/
structure Cuts (kf : Nat) (q : Int → Bool) : Prop where
  calls : ∀ (r : Int) (w : World), -2147483648 ≤ r → r ≤ 2147483647 → Calls Tryz.prog kf #[.int .i32 r] w fun e w' => e = .returned (.bool (q r)) ∧ w = w'
  high : ∀ r : Int, 128 ≤ r → q r = false
def onByte (q : Int → Bool) (c : UInt8) : Bool := q (c.toNat : Int)
/-- The parts, as texts. -/
def partsOf (q : Int → Bool) (s : ByteArray) : List ByteArray := (splitB (onByte q) s.data.toList).map fun l => ⟨l.toArray⟩

/-- Where the iterator stands: pre has been told, the next part begins at f, the sign at pos comes next. -/
structure At (q : Int → Bool) (s : ByteArray) (pre : List ByteArray) (f pos : Nat) : Prop where
  fpos : f ≤ pos
  le : pos ≤ s.size
  told : pre ++ (splitB (onByte q) (s.data.toList.drop f)).map (fun l => ⟨l.toArray⟩) = partsOf q s
  plain : ∀ j (h : j < s.data.toList.length), f ≤ j → j < pos → onByte q (s.data.toList[j]) = false
theorem At.start (q : Int → Bool) (s : ByteArray) : At q s [] 0 0 := ⟨Nat.le_refl _, Nat.zero_le _, by simp [partsOf], fun j _ _ h => by omega⟩
theorem At.len {q : Int → Bool} {s : ByteArray} {pre : List ByteArray} {f pos : Nat} (h : At q s pre f pos) : pre.length < (partsOf q s).length := by
  have := congrArg List.length h.told
  have h2 := List.length_pos_iff.2 (splitB_ne (onByte q) (s.data.toList.drop f))
  simp at this
  omega
theorem piece (s : ByteArray) (f a : Nat) : s.extract f a = ⟨((s.data.toList.drop f).take (a - f)).toArray⟩ := by
  refine Go.WideShapes.bytes_inj ?_
  rw [Lib.extract_data]
theorem piece_end (s : ByteArray) (f : Nat) : s.extract f s.size = ⟨(s.data.toList.drop f).toArray⟩ := by
  refine Go.WideShapes.bytes_inj ?_
  rw [Lib.extract_to_end]
theorem size_list (s : ByteArray) : s.data.toList.length = s.size := by simp
/-- A sign that does not cut. -/
theorem At.skip {kf : Nat} {q : Int → Bool} {s : ByteArray} {pre : List ByteArray} {f pos : Nat} (hq : Cuts kf q) (h : At q s pre f pos) (hp : pos < s.size) (hn : q ((Utf8.decode s pos).1 : Int) = false) : At q s pre f (pos + (Utf8.decode s pos).2) := by
  refine ⟨by have := h.fpos; omega, decode_fits s pos hp, h.told, fun j hj h1 h2 => ?_⟩
  have hj' : j < s.size := by rw [← size_list]; exact hj
  rcases Nat.lt_or_ge j pos with h3 | h3
  · exact h.plain j hj h1 h3
  · by_cases ha : s[pos].toNat < 128
    · rw [decode_ascii s pos hp ha] at hn h2
      obtain rfl : j = pos := by simp at h2; omega
      exact hn
    · rcases Nat.eq_or_lt_of_le h3 with rfl | h4
      · exact hq.high _ (by show (128 : Int) ≤ ((s[pos].toNat : Nat) : Int); omega)
      · have := decode_cont s pos hp j hj' h4 h2
        exact hq.high _ (by show (128 : Int) ≤ ((s[j].toNat : Nat) : Int); omega)
/-- A sign that cuts is one byte. -/
theorem At.cut {kf : Nat} {q : Int → Bool} {s : ByteArray} {pre : List ByteArray} {f pos : Nat} (hq : Cuts kf q) (h : At q s pre f pos) (hp : pos < s.size) (hc : q ((Utf8.decode s pos).1 : Int) = true) :
    (Utf8.decode s pos).2 = 1 ∧ At q s (pre ++ [s.extract f pos]) (pos + 1) (pos + 1) := by
  have ha : s[pos].toNat < 128 := by
    rcases Nat.lt_or_ge s[pos].toNat 128 with h1 | h1
    · exact h1
    · have := (decode_high s pos hp h1).1
      rw [hq.high _ (by omega)] at hc
      cases hc
  have hd := decode_ascii s pos hp ha
  rw [hd] at hc
  refine ⟨by rw [hd], Nat.le_refl _, by omega, ?_, fun j _ h1 h2 => by omega⟩
  rw [← h.told, split_at h.fpos (by rw [size_list]; exact hp) h.plain hc]
  simp [piece]
theorem At.rest {q : Int → Bool} {s : ByteArray} {pre : List ByteArray} {f pos : Nat} (h : At q s pre f pos) (hp : ¬ pos < s.size) : pre ++ [s.extract f s.size] = partsOf q s := by
  rw [← h.told, split_rest (fun j hj h1 => h.plain j hj h1 (by rw [size_list] at hj; omega))]
  simp [piece_end]

/-- The blocks between two numbers lie as they lay. -/
def Mid (b n₀ : Nat) (A B : World) : Prop := ∀ k, b < k → k < n₀ → B.heap[k]? = A.heap[k]?
theorem Mid.refl (b n₀ : Nat) (A : World) : Mid b n₀ A A := fun _ _ _ => rfl
theorem Mid.trans {b n₀ : Nat} {A B C : World} (h : Mid b n₀ A B) (k : Mid b n₀ B C) : Mid b n₀ A C := fun i h1 h2 => (k i h1 h2).trans (h i h1 h2)
theorem Mid.of {b n₀ m : Nat} {A B : World} (h : Below m A B) (hm : n₀ ≤ m) : Mid b n₀ A B := fun i _ h2 => h.block i (by omega)
theorem Mid.cell {b n₀ : Nat} {A B : World} (h : Mid b n₀ A B) {g : Nat} (h1 : b < g) (h2 : g < n₀) : B.cell? ⟨g, 0, none⟩ = A.cell? ⟨g, 0, none⟩ := World.cell?_of_block (h g h1 h2)
/-- What a round keeps of the iterator's: the two boxes of the text and of what cuts it, and the walks. -/
def Kept (b n₀ : Nat) (A B : World) : Prop := Mid b n₀ A B ∧ KeepsWalks A B

theorem iterAt_grown (w : World) (k : Nat) (s : ByteArray) (pos : Nat) : w.grownBy (w.iterAt k s pos) (some k) :=
  ⟨rfl, rfl, rfl, by rw [Lib.iterAt_size]; exact Nat.le_refl _, fun i _ hk => Lib.iterAt_other w k i s pos (fun e => hk (by rw [e]))⟩
theorem decode_width_pos' (s : ByteArray) (pos : Nat) (h : pos < s.size) : 1 ≤ (Utf8.decode s pos).2 := by
  by_cases ha : (s[pos]'h).toNat < 128
  · rw [decode_ascii s pos h ha]; exact Nat.le_refl 1
  · exact (decode_high s pos h (by omega)).2
theorem ext_size (s : ByteArray) (a b : Nat) : (s.extract a b).size = min b s.size - a := by simp

set_option maxRecDepth 100000 in
set_option maxHeartbeats 4000000 in
theorem parts1_nl (q : Int → Bool) (hq : Cuts 38 q) (n l b n₀ g1 g2 : Nat) (hn : 1 ≤ n) (s : ByteArray) (hs : s.size ≤ 1048576) (J Jx : List ByteArray → World → Prop) (W : World) (hJ : AbidesFrom W.heap.size J) (hJx : AbidesFrom W.heap.size Jx)
    (hY : ∀ pre x W, J pre W → pre.length < (partsOf q s).length → YieldAt Fence.wide (n - 1) Tryz.prog l #[.string x] W fun e W' =>
      (e = .returned (.bool true) ∧ J (pre ++ [x]) W' ∧ Kept b n₀ W W') ∨ (e = .returned (.bool false) ∧ Jx (pre ++ [x]) W'))
    (hg1 : W.cell? ⟨g1, 0, none⟩ = some (.string s)) (hg2 : W.cell? ⟨g2, 0, none⟩ = some (.func (.func 38) #[] #[])) (hb1 : b < g1) (hb2 : b < g2) (hl1 : g1 < n₀) (hl2 : g2 < n₀) (hn₀ : n₀ ≤ W.heap.size) (h0 : J [] W) :
    CallsIn Fence.wide n Tryz.prog 81 #[.func (.yield l) #[] #[], .pointer (some ⟨g1, 0, none⟩), .pointer (some ⟨g2, 0, none⟩)] W fun e W' => (∃ v, e = .returned v) ∧
      ((∃ ys, ys = partsOf q s ∧ J ys W') ∨ (∃ pre, pre <+: partsOf q s ∧ Jx pre W')) := by
  refine callsIn_of_wp Tryz.func81 rfl trivial ?_ rfl
  simp only [Tryz.ntmps81, List.size_toArray, List.length_cons, List.length_nil, Nat.reduceAdd, Nat.reduceSub, Array.replicate_succ, Array.replicate_zero, List.push_toArray, List.append_toArray, List.nil_append, List.cons_append]
  have HY := Lib.hid hY
  have HJ := Lib.hid hJ
  have HX := Lib.hid hJx
  have HQ := Lib.hid hq
  have HG1 := Lib.hid hg1
  have HG2 := Lib.hid hg2
  have H0 := Lib.hid h0
  have hg1' := hg1
  clear hY hJ hJx hq hg2 h0
  gi_wp2
  clear hg1 hg1'
  have hK : (W.iter s 0).heap[W.heap.size]? = some (.stringIter s 0) := World.iter_heap W s 0
  have hJ0 : J [] (W.iter s 0) := HJ.out _ _ _ none H0.out (World.grownBy_alloc W _ none) (fun r e => by cases e)
  have hB0 : Mid b n₀ W (W.iter s 0) := Mid.of ((Below.refl n₀ W).alloc hn₀ _) (Nat.le_refl _)
  gi_loopw [4] (fun vf wr => ∃ (pre : List ByteArray) (f pos : Nat), vf = .int .i64 f ∧ Hid (At q s pre f pos) ∧ Hid (wr.heap[W.heap.size]? = some (.stringIter s pos) ∧ J pre wr ∧ Mid b n₀ W wr ∧ W.heap.size < wr.heap.size))
    (fun _ wr => s.size - wr.iterPos W.heap.size)
  case atStart => exact ⟨[], 0, 0, rfl, At.start q s, hK, hJ0, hB0, by simp [World.iter]⟩
  case round =>
    obtain ⟨pre, f, pos, rfl, HA, HW⟩ := hrel
    obtain ⟨hit, hJs, hB, hlt⟩ := HW.out
    have hfp := HA.out.fpos
    have hps := HA.out.le
    clear hK hJ0 hB0
    by_cases hp : pos < s.size
    · have hnx := fun ty => Lib.run_next_any_at (P := Tryz.prog) wr W.heap.size s pos ty hit hp
      have hwp := decode_width_pos' s pos hp
      obtain ⟨d, hd⟩ : ∃ d, Utf8.decode s pos = d := ⟨_, rfl⟩
      have hdl := decode_le s pos
      rw [hd] at hnx hwp hdl
      have hit2 := Lib.iterAt_heap wr W.heap.size s pos (pos + d.2) hit
      have hJ2 : J pre (wr.iterAt W.heap.size s (pos + d.2)) := HJ.out _ _ _ (some W.heap.size) hJs (iterAt_grown wr W.heap.size s _) (fun r e => by cases e; exact ⟨Nat.le_refl _, _, hit, rfl⟩)
      have hB2 : Mid b n₀ W (wr.iterAt W.heap.size s (pos + d.2)) := hB.trans fun k _ h2 => Lib.iterAt_other wr W.heap.size k s _ (by omega)
      have hlt2 : W.heap.size < (wr.iterAt W.heap.size s (pos + d.2)).heap.size := by rw [Lib.iterAt_size]; exact hlt
      obtain ⟨W2, hW2⟩ : ∃ W2, wr.iterAt W.heap.size s (pos + d.2) = W2 := ⟨_, rfl⟩
      rw [hW2] at hnx hit2 hJ2 hB2 hlt2
      have hc1 : W2.cell? ⟨g1, 0, none⟩ = some (.string s) := (hB2.cell hb1 hl1).trans HG1.out
      have hc2 : W2.cell? ⟨g2, 0, none⟩ = some (.func (.func 38) #[] #[]) := (hB2.cell hb2 hl2).trans HG2.out
      have HD := Lib.hid hd
      have HI2 := Lib.hid hit2
      have HJ2 := Lib.hid hJ2
      have HB2 := Lib.hid hB2
      have HL2 := Lib.hid hlt2
      have hm0 : wr.iterPos W.heap.size = pos := iterPos_of hit
      have HM0 := Lib.hid hm0
      clear hd hit2 hJ2 hB2 hW2 hit hJs hB hlt hm0 hlt2
      have hdl2 : (d.1 : Int) ≤ 2147483647 := by omega
      by_cases hc : q (d.1 : Int) = true
      · have hcut := HA.out.cut HQ.out hp (by rw [HD.out]; exact hc)
        rw [HD.out] at hcut
        have HCUT := Lib.hid hcut
        have HC := Lib.hid hc
        have hlen := HA.out.len
        have HLEN := Lib.hid hlen
        have i1 : (f : Int) ≤ (pos : Int) := by omega
        have i2 : (pos : Int) ≤ (s.size : Int) := by omega
        clear hc hcut hlen
        gi_wp2_with (refine ⟨trivial, ?_⟩; gi_at_call 38; refine (callsIn_wide.2 (HQ.out.calls _ _ (by omega) (by omega))).mono ?_; rintro e w' ⟨he, rfl⟩; rw [HC.out] at he; subst he)
        refine ⟨trivial, ?_⟩
        refine (callsIn_wide.2 (clone_any (s.extract f pos) W2 (by rw [ext_size]; omega))).mono ?_
        rintro e W3 ⟨rfl, hb3⟩
        have hJ3 : J pre W3 := HJ.out _ _ _ none HJ2.out (only_of_below hb3 none) (fun r e => by cases e)
        have HB3 := Lib.hid (HB2.out.trans (Mid.of hb3 (by have := HL2.out; omega)))
        have HI3 := Lib.hid ((hb3.block _ HL2.out).trans HI2.out)
        have HS3 := Lib.hid hb3.size
        clear hb3
        obtain ⟨fn, tmps, assign, body, hy, hR⟩ := HY.out pre (s.extract f pos) W3 hJ3 HLEN.out
        have HR := Lib.hid hR
        clear hJ3 hR
        gi_wp2
        refine HR.out.mono ?_
        rintro e W4 (⟨rfl, hJ4, hk4, hw4⟩ | ⟨rfl, hJx4⟩)
        · have hit4 : W4.heap[W.heap.size]? = some (.stringIter s (pos + d.2)) := hw4.same _ _ HI3.out rfl
          have H4 : Hid (W4.heap[W.heap.size]? = some (.stringIter s (pos + d.2)) ∧ J (pre ++ [s.extract f pos]) W4 ∧ Mid b n₀ W W4 ∧ W.heap.size < W4.heap.size) := Lib.hid ⟨hit4, hJ4, HB3.out.trans hk4, by have := HL2.out; have := HS3.out; have := hw4.size; omega⟩
          clear hJ4 hk4 hw4 hit4
          gi_wp2
          go_roundw
          case rel => exact ⟨pre ++ [s.extract f pos], pos + 1, pos + d.2, by go_num, by rw [HCUT.out.1]; exact HCUT.out.2, H4.out⟩
          case measure => rw [iterPos_of H4.out.1, HM0.out]; omega
        · have HX4 := Lib.hid hJx4
          clear hJx4
          gi_wp2
          refine bodyPost_ret (results_none rfl _ _ _) rfl ?_
          exact ⟨⟨_, rfl⟩, .inr ⟨pre ++ [s.extract f pos], ⟨_, HCUT.out.2.told⟩, HX4.out⟩⟩
      · have hc' : q (d.1 : Int) = false := by simpa using hc
        have hskip := HA.out.skip HQ.out hp (by rw [HD.out]; exact hc')
        rw [HD.out] at hskip
        have HSK := Lib.hid hskip
        have HC := Lib.hid hc'
        clear hc hc' hskip
        gi_wp2_with (refine ⟨trivial, ?_⟩; gi_at_call 38; refine (callsIn_wide.2 (HQ.out.calls _ _ (by omega) (by omega))).mono ?_; rintro e w' ⟨he, rfl⟩; rw [HC.out] at he; subst he)
        go_roundw
        case rel => exact ⟨pre, f, pos + d.2, rfl, HSK.out, HI2.out, HJ2.out, HB2.out, HL2.out⟩
        case measure => rw [iterPos_of HI2.out, HM0.out]; omega
    · have hnx := fun ty => Lib.run_next_end_at (P := Tryz.prog) wr W.heap.size s pos ty hit hp
      have hrest := HA.out.rest hp
      have HRE := Lib.hid hrest
      have HLEN := Lib.hid HA.out.len
      have hc1 : wr.cell? ⟨g1, 0, none⟩ = some (.string s) := (hB.cell hb1 hl1).trans HG1.out
      have i1 : (f : Int) ≤ (s.size : Int) := by omega
      have HJ2 := Lib.hid hJs
      have HB2 := Lib.hid hB
      clear hrest hit hJs hB hlt
      gi_wp2
      refine ⟨trivial, ?_⟩
      refine (callsIn_wide.2 (clone_any (s.extract f s.size) wr (by rw [ext_size]; omega))).mono ?_
      rintro e W3 ⟨rfl, hb3⟩
      have hJ3 : J pre W3 := HJ.out _ _ _ none HJ2.out (only_of_below hb3 none) (fun r e => by cases e)
      clear hb3
      obtain ⟨fn, tmps, assign, body, hy, hR⟩ := HY.out pre (s.extract f s.size) W3 hJ3 HLEN.out
      have HR := Lib.hid hR
      clear hJ3 hR
      gi_wp2
      refine HR.out.mono ?_
      rintro e W4 (⟨rfl, hJ4, hk4, hw4⟩ | ⟨rfl, hJx4⟩)
      · have H4 := Lib.hid hJ4
        clear hJ4 hk4 hw4
        gi_wp2
        go_end0
        exact ⟨⟨_, rfl⟩, .inl ⟨_, HRE.out, H4.out⟩⟩
      · have H4 := Lib.hid hJx4
        clear hJx4
        gi_wp2
        go_end0
        exact ⟨⟨_, rfl⟩, .inr ⟨_, by rw [HRE.out]; exact List.prefix_refl _, H4.out⟩⟩

end Go.Proofs.YtofikgjoiidhmaaGreatDoor

namespace Go.Proofs.YtofikgjoiidhmaaGreatDoor
open Go.RowKit Go.Shelf Go

attribute [local go_sem] Oper.semAt_some

def qNl (r : Int) : Bool := r == 10
def qSp (r : Int) : Bool := r == 32 || r == 10 || r == 9
theorem cuts_nl : Cuts 38 qNl := ⟨fun r w _ _ => by
  go_enter Tryz.func38, Tryz.ntmps38
  go_wp2
  go_ret
  exact ⟨rfl, rfl⟩, fun r h => by simp [qNl]; omega⟩
/-- The world behind a call of parts: the text and the function that tells what cuts are boxed. -/
def boxed2 (w : World) (s : ByteArray) (kf : Nat) : World := (w.alloc (.cells #[.string s] 9)).alloc (.cells #[.func (.func kf) #[] #[]] 77)
theorem parts_any (s : ByteArray) (kf : Nat) (w : World) :
    Calls Tryz.prog 37 #[.string s, .func (.func kf) #[] #[]] w fun e w' => e = .returned (.func (.func 81) #[] #[.pointer (some ⟨w.heap.size, 0, none⟩), .pointer (some ⟨w.heap.size + 1, 0, none⟩)]) ∧ w' = boxed2 w s kf := by
  go_enter Tryz.func37, Tryz.ntmps37
  go_wp2
  go_ret
  exact ⟨rfl, rfl⟩
theorem boxed2_g1 (w : World) (s : ByteArray) (kf : Nat) : (boxed2 w s kf).cell? ⟨w.heap.size, 0, none⟩ = some (.string s) := by
  unfold boxed2
  rw [World.cell?_alloc_lt _ _ _ (by simp), World.cell?_alloc_new]
  rfl
theorem boxed2_g2 (w : World) (s : ByteArray) (kf : Nat) : (boxed2 w s kf).cell? ⟨w.heap.size + 1, 0, none⟩ = some (.func (.func kf) #[] #[]) := by
  unfold boxed2
  have e : w.heap.size + 1 = (w.alloc (.cells #[.string s] 9)).heap.size := by simp
  rw [e, World.cell?_alloc_new]
  rfl
theorem boxed2_size (w : World) (s : ByteArray) (kf : Nat) : (boxed2 w s kf).heap.size = w.heap.size + 2 := by simp [boxed2]
theorem boxed2_below (w : World) (s : ByteArray) (kf : Nat) : Below w.heap.size w (boxed2 w s kf) := ((Below.refl _ w).alloc (Nat.le_refl _) _).alloc (by simp) _

theorem stops_nl (n : Nat) (hn : 1 ≤ n) (s : ByteArray) (hs : s.size ≤ 1048576) (w0 w : World) (b : Nat) (hb : b < w.heap.size) (hw : w0 = boxed2 w s 38) :
    SeqStopsK Fence.wide n Tryz.prog 81 #[.pointer (some ⟨w.heap.size, 0, none⟩), .pointer (some ⟨w.heap.size + 1, 0, none⟩)] (fun x : ByteArray => #[Value.string x]) (Kept b (w.heap.size + 2)) (fun ys => ys = partsOf qNl s) (fun pre => pre <+: partsOf qNl s) (partsOf qNl s).length w0 := fun l J Jx W hW hJ hJx hY h0 => by
  subst hw
  rw [boxed2_size] at hW
  exact parts1_nl qNl cuts_nl n l b (w.heap.size + 2) w.heap.size (w.heap.size + 1) hn s hs J Jx W hJ hJx hY ((hW.cell (p := ⟨w.heap.size, 0, none⟩) (by simp)).trans (boxed2_g1 w s _)) ((hW.cell (p := ⟨w.heap.size + 1, 0, none⟩) (by simp)).trans (boxed2_g2 w s _)) hb (by omega) (by omega) (by omega) (by have := hW.size; rw [boxed2_size] at this; omega) h0

theorem kept_t {b n₀ : Nat} {A B C : World} (h : Kept b n₀ A B) (k : Kept b n₀ B C) : Kept b n₀ A C := ⟨h.1.trans k.1, h.2.trans k.2⟩
theorem kept_b {b n₀ : Nat} {w : World} (hn : n₀ ≤ w.heap.size) (W : World) (l : Nat) (o o' : Obj) (hl : w.heap.size ≤ l) (h : W.heap[l]? = some o) (hc : o.isCells = false) (hw : o.isWalk = false) : Kept b n₀ W (W.putObj l o') :=
  ⟨Mid.of (belowK_b hn W l o o' hl h hc hw) (Nat.le_refl _), walksK_b (w := w) W l o o' hl h hc hw⟩
/-- 'list = append(list, x)', list in a box b of its own ahead of the rows that the loop makes. -/
theorem appended2 {W w1 : World} {n₀ b : Nat} {t e : TypeId} {size : Nat} {v v' : Value} {k m : Nat} {xs ys : List Value} {tmp : Obj}
    (hv : Boxed W b t v) (hte : t ≠ e) (hrow : W.ownsRow n₀ e size v k xs) (hn₀ : n₀ ≤ W.heap.size) (hb : b < n₀)
    (hown' : w1.ownsRow n₀ e size v' m ys) (hgrow : (W.alloc tmp).grownBy w1 v.ownBlock) :
    Boxed w1 b t v ∧ Boxed (w1.setCell ⟨b, 0, none⟩ v') b t v' ∧ (w1.setCell ⟨b, 0, none⟩ v').ownsRow n₀ e size v' m ys ∧ KeepsOthers W (w1.setCell ⟨b, 0, none⟩ v') ∧ Mid b n₀ W (w1.setCell ⟨b, 0, none⟩ v') ∧ Below b W (w1.setCell ⟨b, 0, none⟩ v') := by
  have hlt : ∀ j, v.ownBlock = some j → n₀ ≤ j := fun j ej => by
    rcases hrow.2 with ⟨rfl, _⟩ | ⟨g, cap, cur, rfl, h1, _, _⟩
    · simp [Value.ownBlock] at ej
    · obtain rfl : g = j := by simpa [Value.ownBlock] using ej
      exact h1
  have hbel : Below n₀ W w1 := ((Below.refl n₀ W).alloc hn₀ tmp).grown hgrow (by simp; omega) hlt
  have hv1 : Boxed w1 b t v := hv.kept ⟨hbel.os, hbel.tape, hbel.output, hbel.size, fun i hi hne => (hgrow.block i (by simp; omega) hne).trans (Below.heap_alloc W tmp i hi)⟩ (hv.not_row hte hrow)
  refine ⟨hv1, hv1.set v', hown'.kept (grownBy_setCell' w1 b v') (.inr (hv1.not_row hte hown').symm), ?_, ?_, ?_⟩
  · refine ((KeepsOthers.alloc W tmp).trans (KeepsOthers.of_grownBy hgrow fun j o ej hj => ?_)).trans (KeepsOthers.setCell _ _ _)
    rcases (hrow.alloc tmp).2 with ⟨rfl, _⟩ | ⟨g, cap, cur, rfl, _, hgb, _⟩
    · simp [Value.ownBlock] at ej
    · obtain rfl : g = j := by simpa [Value.ownBlock] using ej
      rw [hgb] at hj; cases hj; rfl
  · exact (Mid.of hbel (Nat.le_refl _)).trans fun i h1 _ => Below.heap_setCell w1 ⟨b, 0, none⟩ v' i (by show i ≠ b; omega)
  · have h2 : Below b W w1 := hbel.mono (by omega)
    exact h2.setCell (p := ⟨b, 0, none⟩) (Nat.le_refl _) v'
end Go.Proofs.YtofikgjoiidhmaaGreatDoor
