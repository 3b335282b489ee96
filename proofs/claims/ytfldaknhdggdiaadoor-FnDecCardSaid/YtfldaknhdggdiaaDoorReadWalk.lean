/-
  spec.ReadDec answers the number of -9999999999 .. 9999999999 whose decimal text its argument is, and true; or 0 and false.
-/
import Derived.Test.YtfldaknhdggdiaaDoorReadMath
import Derived.Test.YtfldaknhdggdiaaDoorDecWalk
import Derived.Test.YtfldaknhdggdiaaDoorSmall
import Derived.Test.YtfldaknhdggdiaaDoorLaw
namespace Go.Proofs.YtfldaknhdggdiaaDoor
open Go.RowKit

theorem tl_eq (s : ByteArray) : s.toList = s.data.toList := ByteArray.toList_eq s

set_option maxRecDepth 100000 in
set_option maxHeartbeats 1000000 in
theorem spec_readdec (s : ByteArray) (hs : s.size ≤ 1048576) (w : World) :
    Calls Tryd.prog 16 #[.string s] w fun e w' => ∃ n b, e = .returned (.tuple #[.int .i64 n, .bool b]) ∧ ReadsDec s.data.toList n b ∧ w = w' := by
  have hsl : s.data.toList.length = s.size := by simp
  by_cases hl : 1 ≤ s.size ∧ s.size ≤ 11
  · obtain ⟨hl1, hl2⟩ := hl
    have i1 : inB (s.size : Int) 1 11 = true := inB_true (by omega) (by omega)
    go_enter Tryd.func16, Tryd.ntmps16
    go_wp2_with (first | (go_at_call 27; refine (in_any _ _ _ _).mono ?_; rintro e w' ⟨rfl, rfl⟩))
    go_loop [4, 5] (fun n i => ∃ k : Nat, k ≤ s.size ∧ i = .int .i64 k ∧ n = .int .i64 (dval (stp (s.data.toList.take k))) ∧ (∀ c ∈ stp (s.data.toList.take k), DigB c) ∧ dval (stp (s.data.toList.take k)) < 10 ^ k) (fun _ i => s.size - (intOf i).toNat)
    case atStart => exact ⟨0, by omega, rfl, by simp [stp, dval], by simp [stp], by simp [stp, dval]⟩
    case round =>
      obtain ⟨k, hk, rfl, rfl, hall, hlt⟩ := hrel
      have hpow : 10 ^ k ≤ 10 ^ 11 := Nat.pow_le_pow_right (by decide) (by omega)
      obtain ⟨v, hv⟩ : ∃ v, dval (stp (s.data.toList.take k)) = v := ⟨_, rfl⟩
      rw [hv] at hlt ⊢
      have hvb : (v : Int) < 100000000000 := by simp only [Nat.reducePow] at hpow; omega
      have HV := Lib.hid hv
      have HA := Lib.hid hall
      have HL := Lib.hid hlt
      clear hv hpow hall hlt
      by_cases hks : k < s.size
      · have hg : s.data.toList[k]'(by omega) = s[k] := by rfl
        have HG := Lib.hid hg
        clear hg
        by_cases h45 : k = 0 ∧ (s[k].toNat = 45)
        · obtain ⟨rfl, h45⟩ := h45
          have h45' : ((s[0].toNat : Int) == 45) = true := by rw [h45]; rfl
          have e1 : stp (s.data.toList.take 1) = [] := stp_take_one (by omega) (by rw [HG.out]; exact h45)
          have HE := Lib.hid e1
          have H45 := Lib.hid h45
          clear e1 h45
          go_wp2
          go_round
          case rel => exact ⟨1, by omega, rfl, by rw [HE.out, ← HV.out]; rfl, by rw [HE.out]; simp, by rw [HE.out]; decide⟩
          case measure => simp [intOf]; omega
        · have hsn := stp_take_succ (l := s.data.toList) (k := k) (by omega) (by rw [HG.out]; exact h45)
          rw [HG.out] at hsn
          have hmem := mem_stp (l := s.data.toList) (k := k) (by omega) (by rw [HG.out]; exact h45)
          rw [HG.out] at hmem
          have h45' : k = 0 → ((s[k].toNat : Int) == 45) = false := fun hk0 => by
            have : s[k].toNat ≠ 45 := fun h => h45 ⟨hk0, h⟩
            simp; omega
          have HS := Lib.hid hsn
          have HM := Lib.hid hmem
          clear hsn hmem h45
          by_cases hd : 48 ≤ s[k].toNat ∧ s[k].toNat ≤ 57
          · have hin : inB (s[k].toNat : Int) 48 57 = true := inB_true (by omega) (by omega)
            obtain ⟨hd1, hd2⟩ := hd
            have fin : ∃ j : Nat, j ≤ s.size ∧ Value.int .i64 ((k : Int) + 1) = .int .i64 j ∧ Value.int .i64 (10 * (v : Int) + (s[k].toNat : Int) - 48) = .int .i64 (dval (stp (s.data.toList.take j))) ∧ (∀ c ∈ stp (s.data.toList.take j), DigB c) ∧ dval (stp (s.data.toList.take j)) < 10 ^ j := by
              refine ⟨k + 1, by omega, by go_num, ?_, ?_, ?_⟩
              · rw [HS.out, dval_snoc, HV.out]; congr 1; omega
              · rw [HS.out]; intro c hc
                rcases List.mem_append.1 hc with hc | hc
                · exact HA.out c hc
                · simp at hc; subst hc; exact ⟨hd1, hd2⟩
              · rw [HS.out, dval_snoc, HV.out, Nat.pow_succ]; have := HL.out; omega
            have FIN := Lib.hid fin
            clear fin
            by_cases hk0 : k = 0
            · subst hk0
              have h0 := h45' rfl
              clear h45'
              go_wp2_with (first | (go_at_call 28; refine (digit_u8 _ _).mono ?_; rintro e w' ⟨rfl, rfl⟩))
              go_round
              case rel => exact FIN.out
              case measure => simp [intOf]; omega
            · have hk0' : ((k : Int) == 0) = false := by simpa using hk0
              clear h45'
              go_wp2_with (first | (go_at_call 28; refine (digit_u8 _ _).mono ?_; rintro e w' ⟨rfl, rfl⟩))
              go_round
              case rel => exact FIN.out
              case measure => simp [intOf]; omega
          · have hin : inB (s[k].toNat : Int) 48 57 = false := inB_false (by omega)
            have no : ∀ m : Int, -9999999999 ≤ m → m ≤ 9999999999 → s.data.toList ≠ Lib.itoa m := fun m _ _ h => by
              have hm := HM.out
              rw [h, stp_itoa] at hm
              exact hd (decDigits_all _ _ hm)
            have NO := Lib.hid no
            clear no hd
            by_cases hk0 : k = 0
            · subst hk0
              have h0 := h45' rfl
              clear h45'
              go_wp2_with (first | (go_at_call 28; refine (digit_u8 _ _).mono ?_; rintro e w' ⟨rfl, rfl⟩))
              go_ret2
              exact ⟨0, false, rfl, .inr ⟨rfl, rfl, NO.out⟩, rfl⟩
            · have hk0' : ((k : Int) == 0) = false := by simpa using hk0
              clear h45'
              go_wp2_with (first | (go_at_call 28; refine (digit_u8 _ _).mono ?_; rintro e w' ⟨rfl, rfl⟩))
              go_ret2
              exact ⟨0, false, rfl, .inr ⟨rfl, rfl, NO.out⟩, rfl⟩
      · have hke : k = s.size := by omega
        have ht : s.data.toList.take k = s.data.toList := List.take_of_length_le (by omega)
        rw [ht] at HV HA
        have HK := Lib.hid hke
        clear hke ht
        have hvb2 : v < 100000000000 := by omega
        clear hvb
        have hg0 : s.data.toList[0]'(by omega) = s[0] := by rfl
        by_cases h45 : s[0].toNat = 45
        · have h45' : ((s[0].toNat : Int) == 45) = true := by rw [h45]; rfl
          obtain ⟨z, hz⟩ : ∃ z : Int, z = -(v : Int) := ⟨_, rfl⟩
          have key : ∀ m : Int, s.data.toList = Lib.itoa m → m = z := fun m hm => read_key HV.out (by omega) (by rw [hg0, if_pos h45]; exact hz) hm
          have KEY := Lib.hid key
          have hw : wrap64 (-(v : Int)) = z := by unfold wrap64; omega
          have hz1 : -9223372036854775808 ≤ z := by omega
          have hz2 : z ≤ 9223372036854775807 := by omega
          clear hz hvb2 h45 hg0 key
          by_cases hb : inB z (-9999999999) 9999999999 = true
          · have HI := Lib.hid hb
            clear hb
            by_cases he : Lib.itoa z = s.data.toList
            · have he1 : (!Lib.itoa z == s.toList) = false := by rw [tl_eq, he]; simp
              have HE := Lib.hid he
              clear he
              go_wp2_with (first | (go_at_call 27; refine (in_any _ _ _ _).mono ?_; rintro e w' ⟨he, rfl⟩; rw [HI.out] at he; subst he) | (go_at_call 15; refine (spec_dectext z hz1 hz2 _).mono ?_; rintro e w' ⟨rfl, rfl⟩))
              go_ret2
              obtain ⟨r1, r2⟩ := inB_iff.1 HI.out
              exact ⟨z, true, rfl, .inl ⟨rfl, r1, r2, HE.out.symm⟩, rfl⟩
            · have he1 : (!Lib.itoa z == s.toList) = true := by rw [tl_eq]; simpa using he
              have HE := Lib.hid he
              clear he
              go_wp2_with (first | (go_at_call 27; refine (in_any _ _ _ _).mono ?_; rintro e w' ⟨he, rfl⟩; rw [HI.out] at he; subst he) | (go_at_call 15; refine (spec_dectext z hz1 hz2 _).mono ?_; rintro e w' ⟨rfl, rfl⟩))
              go_ret2
              exact ⟨0, false, rfl, .inr ⟨rfl, rfl, fun m _ _ h => HE.out (by rw [h, KEY.out m h])⟩, rfl⟩
          · have hb' : inB z (-9999999999) 9999999999 = false := by simpa using hb
            have HI := Lib.hid hb'
            clear hb hb'
            go_wp2_with (first | (go_at_call 27; refine (in_any _ _ _ _).mono ?_; rintro e w' ⟨he, rfl⟩; rw [HI.out] at he; subst he))
            go_ret2
            exact ⟨0, false, rfl, .inr ⟨rfl, rfl, fun m r1 r2 h => by have := HI.out; rw [← KEY.out m h, inB_true r1 r2] at this; cases this⟩, rfl⟩
        · have h45' : ((s[0].toNat : Int) == 45) = false := by simp; omega
          obtain ⟨z, hz⟩ : ∃ z : Int, (v : Int) = z := ⟨_, rfl⟩
          have key : ∀ m : Int, s.data.toList = Lib.itoa m → m = z := fun m hm => read_key HV.out (by omega) (by rw [hg0, if_neg h45]; exact hz.symm) hm
          have KEY := Lib.hid key
          have hz1 : -9223372036854775808 ≤ z := by omega
          have hz2 : z ≤ 9223372036854775807 := by omega
          have hw := hz
          clear hz hvb2 h45 hg0 key
          by_cases hb : inB z (-9999999999) 9999999999 = true
          · have HI := Lib.hid hb
            clear hb
            by_cases he : Lib.itoa z = s.data.toList
            · have he1 : (!Lib.itoa z == s.toList) = false := by rw [tl_eq, he]; simp
              have HE := Lib.hid he
              clear he
              go_wp2_with (first | (go_at_call 27; refine (in_any _ _ _ _).mono ?_; rintro e w' ⟨he, rfl⟩; rw [HI.out] at he; subst he) | (go_at_call 15; refine (spec_dectext z hz1 hz2 _).mono ?_; rintro e w' ⟨rfl, rfl⟩))
              go_ret2
              obtain ⟨r1, r2⟩ := inB_iff.1 HI.out
              exact ⟨z, true, rfl, .inl ⟨rfl, r1, r2, HE.out.symm⟩, rfl⟩
            · have he1 : (!Lib.itoa z == s.toList) = true := by rw [tl_eq]; simpa using he
              have HE := Lib.hid he
              clear he
              go_wp2_with (first | (go_at_call 27; refine (in_any _ _ _ _).mono ?_; rintro e w' ⟨he, rfl⟩; rw [HI.out] at he; subst he) | (go_at_call 15; refine (spec_dectext z hz1 hz2 _).mono ?_; rintro e w' ⟨rfl, rfl⟩))
              go_ret2
              exact ⟨0, false, rfl, .inr ⟨rfl, rfl, fun m _ _ h => HE.out (by rw [h, KEY.out m h])⟩, rfl⟩
          · have hb' : inB z (-9999999999) 9999999999 = false := by simpa using hb
            have HI := Lib.hid hb'
            clear hb hb'
            go_wp2_with (first | (go_at_call 27; refine (in_any _ _ _ _).mono ?_; rintro e w' ⟨he, rfl⟩; rw [HI.out] at he; subst he))
            go_ret2
            exact ⟨0, false, rfl, .inr ⟨rfl, rfl, fun m r1 r2 h => by have := HI.out; rw [← KEY.out m h, inB_true r1 r2] at this; cases this⟩, rfl⟩
  · have i1 : inB (s.size : Int) 1 11 = false := inB_false (by omega)
    go_enter Tryd.func16, Tryd.ntmps16
    go_wp2_with (first | (go_at_call 27; refine (in_any _ _ _ _).mono ?_; rintro e w' ⟨rfl, rfl⟩))
    go_ret2
    refine ⟨0, false, rfl, .inr ⟨rfl, rfl, fun m h0 h1 h => hl ?_⟩, rfl⟩
    have e1 := itoa_len h0 h1
    have e2 := List.length_pos_iff.2 (itoa_ne m)
    rw [← h] at e1 e2
    omega
end Go.Proofs.YtfldaknhdggdiaaDoor
