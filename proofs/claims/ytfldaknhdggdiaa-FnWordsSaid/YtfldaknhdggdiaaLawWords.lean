/-
  laws.FnWords answers true at every draw: words with blanks between are those words again, lines with newlines behind are those lines.
-/
import Derived.Test.YtfldaknhdggdiaaWordsMath
import Derived.Test.YtfldaknhdggdiaaLawTexts
import Derived.Test.YtfldaknhdggdiaaSame
import Derived.Test.YtfldaknhdggdiaaDrawWords
import Derived.Test.YtfldaknhdggdiaaCode
namespace Go.Proofs.Ytfldaknhdggdiaa
open Go.RowKit Go

theorem big_any (A : Option Addr) (len cap : Nat) (w : World) : Calls Try.prog 6 #[.slice A len cap] w fun e w' => e = .returned (.bool (decide (1048576 < (len : Int)))) ∧ w = w' := by
  go_enter Try.func6, Try.ntmps6
  go_wp2
  go_ret
  exact ⟨rfl, rfl⟩
theorem flat_take {c : UInt8} {ls : List ByteArray} {i : Nat} (h : i < ls.length) : flat c (ls.take (i + 1)) = flat c (ls.take i) ++ (ls[i].data.toList ++ [c]) := by
  rw [List.take_succ_eq_append_getElem h, flat_snoc]
theorem app_list (a b : ByteArray) : (a ++ b).data.toList = a.data.toList ++ b.data.toList := by simp

set_option maxRecDepth 100000 in
set_option maxHeartbeats 4000000 in
theorem law_FnWords (A : Option Addr) (len cap : Nat) (w : World) (hcode : CodeOk w w.heap.size A len) :
    Calls Try.prog 3 #[.slice A len cap] w fun e w' => e = .returned (.bool true) ∧ Below w.heap.size w w' := by
  have HC := Lib.hid hcode
  clear hcode
  by_cases hbig : (1048576 : Int) < (len : Int)
  · have hb1 : decide ((1048576 : Int) < (len : Int)) = true := by simpa using hbig
    go_enter Try.func3, Try.ntmps3
    go_wp2_with (go_at_call 6; refine (big_any _ _ _ _).mono ?_; rintro e w' ⟨rfl, rfl⟩)
    go_ret
    exact ⟨rfl, Below.refl _ _⟩
  · have hb1 : decide ((1048576 : Int) < (len : Int)) = false := by simpa using hbig
    clear hbig
    go_enter Try.func3, Try.ntmps3
    go_wp2_with (go_at_call 6; refine (big_any _ _ _ _).mono ?_; rintro e w' ⟨rfl, rfl⟩)
    refine (drawwords_any A len cap w HC.out).mono ?_
    rintro e w1 ⟨s, rfl, hs, hbw1⟩
    have HB1 := Lib.hid hbw1
    have HI := Lib.hid (impl_words s (by omega) w1)
    clear hbw1
    go_wp2_with fail
    refine HI.out.mono ?_
    rintro e w2 ⟨v, rfl, ho, hb2⟩
    obtain ⟨ws, hws⟩ : ∃ ws, wordsOf s = ws := ⟨_, rfl⟩
    have hwl := wordsOf_len s
    have hmem : ∀ x ∈ ws, (∀ c ∈ x.data.toList, onByte qSp c = false) ∧ x.size ≤ s.size ∧ x.size ≠ 0 := fun x hx => mem_wordsOf (by rw [hws]; exact hx)
    rw [hws] at ho hwl
    have HR := Rd.of_own ho (by omega)
    have HB2 := Lib.hid (HB1.out.trans (hb2.mono HB1.out.size))
    have HME := Lib.hid hmem
    have HWS := Lib.hid hws
    clear ho hb2 hmem hws HI
    obtain ⟨VA, vc, hv, -, hcell⟩ := HR
    have HRV := Lib.hid (show Rd w2 (.slice VA ws.length vc) ws from ⟨VA, vc, rfl, by omega, hcell⟩)
    have HCE := Lib.hid hcell
    subst hv
    clear hcell
    go_wp2_with fail
    go_loop [5, 6] (fun vj vi => ∃ (i : Nat) (j : ByteArray), vi = .int .i64 i ∧ vj = .string j ∧ i ≤ ws.length ∧ j.size ≤ 101 * i ∧ Hid (j.data.toList = flat 32 (ws.take i))) (fun _ vi => ws.length - (intOf vi).toNat)
    case atStart => exact ⟨0, ⟨#[]⟩, rfl, rfl, by omega, by decide, Lib.hid (by simp [flat])⟩
    case round =>
      obtain ⟨i, j, rfl, rfl, hi, hj, HJ⟩ := hrel
      by_cases hp : i < ws.length
      · obtain ⟨g, rfl, hgl, hc⟩ := HCE.out i hp
        have hxs := (HME.out ws[i] (List.getElem_mem _)).2.1
        have i1 : (i : Int) < (ws.length : Int) := by omega
        have HJ2 : Hid ((j ++ ws[i] ++ (⟨#[32]⟩ : ByteArray)).data.toList = flat 32 (ws.take (i + 1))) := Lib.hid (by rw [flat_take hp, app_list, app_list, HJ.out, List.append_assoc])
        have hz32 : (⟨#[32]⟩ : ByteArray).size = 1 := rfl
        go_wp2_with fail
        go_round
        case rel => exact ⟨i + 1, _, by go_num, rfl, by omega, by rw [ByteArray.size_append, ByteArray.size_append, hz32]; omega, HJ2.out⟩
        case measure => simp [intOf]; omega
      · have hji : j.data.toList = flat 32 ws := by rw [HJ.out, List.take_of_length_le (by omega)]
        have hback : wordsOf j = ws := words_back (fun x hx => ⟨(HME.out x hx).1, (HME.out x hx).2.2⟩) hji
        have HBK := Lib.hid hback
        clear hji hback
        go_wp2_with fail
        refine (drawlines_any A len cap w2 ((HC.out.below HB2.out).more HB2.out.size)).mono ?_
        rintro e w3 ⟨t, rfl, ht, hb3⟩
        have HB3 := Lib.hid (HB2.out.trans (hb3.mono HB2.out.size))
        have HRV3 := Lib.hid (HRV.out.below hb3)
        have HI := Lib.hid (impl_lines t (by omega) w3)
        clear hb3
        go_wp2_with fail
        refine HI.out.mono ?_
        rintro e w4 ⟨vl, rfl, ho, hb4⟩
        obtain ⟨ls, hls⟩ : ∃ ls, linesOf t = ls := ⟨_, rfl⟩
        have hll := linesOf_len t
        have hlb := lines_back t
        have hlm : ∀ x ∈ ls, x.size ≤ t.size := fun x hx => mem_linesOf (by rw [hls]; exact hx)
        rw [hls] at ho hll hlb
        have HB4 := Lib.hid (HB3.out.trans (hb4.mono HB3.out.size))
        have HRV4 := Lib.hid (HRV3.out.below hb4)
        have HR4 := Rd.of_own ho (by omega)
        have HLB := Lib.hid hlb
        have HLM := Lib.hid hlm
        clear ho hb4 hlb hlm hls HI
        obtain ⟨LA, lc, hv, -, hcell⟩ := HR4
        have HCL := Lib.hid hcell
        subst hv
        clear hcell
        go_wp2_with fail
        go_loop [9, 10] (fun vj vi => ∃ (i : Nat) (y : ByteArray), vi = .int .i64 i ∧ vj = .string y ∧ i ≤ ls.length ∧ y.size ≤ 101 * i ∧ Hid (y.data.toList = flat 10 (ls.take i))) (fun _ vi => ls.length - (intOf vi).toNat)
        case atStart => exact ⟨0, ⟨#[]⟩, rfl, rfl, by omega, by decide, Lib.hid (by simp [flat])⟩
        case round =>
          obtain ⟨i2, y, rfl, rfl, hi2, hy, HY⟩ := hrel
          by_cases hp2 : i2 < ls.length
          · obtain ⟨g, rfl, hgl, hc⟩ := HCL.out i2 hp2
            have hxs := HLM.out ls[i2] (List.getElem_mem _)
            have i1 : (i2 : Int) < (ls.length : Int) := by omega
            have HY2 : Hid ((y ++ ls[i2] ++ (⟨#[10]⟩ : ByteArray)).data.toList = flat 10 (ls.take (i2 + 1))) := Lib.hid (by rw [flat_take hp2, app_list, app_list, HY.out, List.append_assoc])
            have hz10 : (⟨#[10]⟩ : ByteArray).size = 1 := rfl
            go_wp2_with fail
            go_round
            case rel => exact ⟨i2 + 1, _, by go_num, rfl, by omega, by rw [ByteArray.size_append, ByteArray.size_append, hz10]; omega, HY2.out⟩
            case measure => simp [intOf]; omega
          · have hyl : y.data.toList = flat 10 ls := by rw [HY.out, List.take_of_length_le (by omega)]
            have hjs : j.size ≤ 1048576 := by omega
            have HIJ : Hid (Calls Try.prog 8 #[.string j] w4 (NewStrs w4 ws)) := Lib.hid (by have h := impl_words j hjs w4; rw [HBK.out] at h; exact h)
            have HSW : ∀ W, Hid (Calls Try.prog 12 #[.string s] W (NewStrs W ws)) := fun W => Lib.hid (by have h := spec_words s (by omega) W; rw [HWS.out] at h; exact h)
            have HYL := Lib.hid hyl
            clear hyl hjs
            go_wp2_with fail
            refine HIJ.out.mono ?_
            rintro e w5 ⟨v5, rfl, ho5, hb5⟩
            have HB5 := Lib.hid (HB4.out.trans (hb5.mono HB4.out.size))
            have HRV5 := Lib.hid (HRV4.out.below hb5)
            have hE := same_any v5 (.slice VA ws.length vc) ws ws w5 (Rd.of_own ho5 (by omega)) HRV5.out
            rw [decide_eq_true rfl] at hE
            have HE := Lib.hid hE
            clear hE ho5 hb5
            go_wp2_with fail
            refine HE.out.mono ?_
            rintro e w6 ⟨rfl, d6, hw6⟩
            have HB6 : Hid (Below w.heap.size w w6) := Lib.hid (by rw [hw6]; exact below_drewN HB5.out d6)
            have HRV6 : Hid (Rd w6 (.slice VA ws.length vc) ws) := Lib.hid (by rw [hw6]; exact HRV5.out)
            clear hw6 HE
            go_wp2_with fail
            refine (HSW w6).out.mono ?_
            rintro e w7 ⟨v7, rfl, ho7, hb7⟩
            have HB7 := Lib.hid (HB6.out.trans (hb7.mono HB6.out.size))
            have hE := same_any (.slice VA ws.length vc) v7 ws ws w7 (HRV6.out.below hb7) (Rd.of_own ho7 (by omega))
            rw [decide_eq_true rfl] at hE
            have HE := Lib.hid hE
            clear hE ho7 hb7
            go_wp2_with fail
            refine HE.out.mono ?_
            rintro e w8 ⟨rfl, d8, hw8⟩
            have HB8 : Hid (Below w.heap.size w w8) := Lib.hid (by rw [hw8]; exact below_drewN HB7.out d8)
            clear hw8 HE
            rcases HLB.out with hb | ⟨hb, hne⟩
            · have hyt : y = t := Go.WideShapes.bytes_inj (HYL.out.trans hb)
              have heq : (y.toList == t.toList) = true := by rw [hyt]; simp
              clear hb hyt
              go_wp2_with fail
              go_ret
              exact ⟨rfl, HB8.out⟩
            · have hyt : y.data.toList = t.data.toList ++ [10] := HYL.out.trans hb
              have heq : (y.toList == t.toList) = false := by
                rw [ByteArray.toList_eq, ByteArray.toList_eq, hyt]
                simp
              have heq2 : (y.toList == (t ++ (⟨#[10]⟩ : ByteArray)).toList) = true := by
                rw [ByteArray.toList_eq, ByteArray.toList_eq, hyt, app_list]; simp
              have hem : t.toList.isEmpty = false := by
                rw [ByteArray.toList_eq]
                have : t.data.toList ≠ [] := fun h => hne (by have := congrArg List.length h; simpa using this)
                simpa using this
              clear hb hyt hne
              go_wp2_with fail
              go_ret
              exact ⟨rfl, HB8.out⟩
end Go.Proofs.Ytfldaknhdggdiaa
