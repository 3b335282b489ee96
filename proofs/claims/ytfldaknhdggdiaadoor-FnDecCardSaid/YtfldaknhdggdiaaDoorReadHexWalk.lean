/-
  spec.ReadHex answers the number whose digits in base 16 its argument is, and true; or 0 and false.
-/
import Derived.Test.YtfldaknhdggdiaaDoorHexWalk
namespace Go.Proofs.YtfldaknhdggdiaaDoor
open Go.RowKit

/-- How reading a text in base 16 ends. -/
def HexOut (l : List UInt8) (w : World) (e : Ending) (w' : World) : Prop := ∃ (n : Nat) (b : Bool), e = .returned (.tuple #[.int .u32 n, .bool b]) ∧ ReadsHex l n b ∧ Below w.heap.size w w'
theorem HexOut.yes {l : List UInt8} {w w' : World} {n : Nat} (h0 : n < 4294967296) (h : l = hexDigits n) (hb : Below w.heap.size w w') : HexOut l w (.returned (.tuple #[.int .u32 n, .bool true])) w' :=
  ⟨n, true, rfl, .inl ⟨rfl, h0, h⟩, hb⟩
theorem HexOut.no {l : List UInt8} {w w' : World} (h : ∀ m : Nat, m < 4294967296 → l ≠ hexDigits m) (hb : Below w.heap.size w w') : HexOut l w (.returned (.tuple #[.int .u32 0, .bool false])) w' :=
  ⟨0, false, rfl, .inr ⟨rfl, rfl, h⟩, hb⟩

def hv (l : List UInt8) (k : Nat) : Nat := hval (l.take k)
theorem hv_succ {l : List UInt8} {k : Nat} (h : k < l.length) : hv l (k + 1) = 16 * hv l k + hval1 l[k] := by
  unfold hv
  rw [List.take_succ_eq_append_getElem h, hval_snoc]

set_option maxRecDepth 100000 in
set_option maxHeartbeats 2000000 in
theorem spec_readhex (s : ByteArray) (hs : s.size ≤ 1048576) (w : World) :
    Calls Tryd.prog 18 #[.string s] w (HexOut s.data.toList w) := by
  have hsl : s.data.toList.length = s.size := by simp
  by_cases hl : 1 ≤ s.size ∧ s.size ≤ 8
  · obtain ⟨hl1, hl2⟩ := hl
    have i1 : inB (s.size : Int) 1 8 = true := inB_true (by omega) (by omega)
    go_enter Tryd.func18, Tryd.ntmps18
    go_wp2_with (first | (go_at_call 27; refine (in_any _ _ _ _).mono ?_; rintro e w' ⟨rfl, rfl⟩))
    go_loop [4, 5] (fun n i => ∃ k v : Nat, k ≤ s.size ∧ i = .int .i64 k ∧ n = .int .i64 v ∧ v < 16 ^ k ∧ Hid (v = hv s.data.toList k)) (fun _ i => s.size - (intOf i).toNat)
    case atStart => exact ⟨0, 0, by omega, rfl, rfl, by decide, Lib.hid (by simp [hv, hval])⟩
    case round =>
      obtain ⟨k, v, hk, rfl, rfl, hlt, HV⟩ := hrel
      have hpow : 16 ^ k ≤ 16 ^ 8 := Nat.pow_le_pow_right (by decide) (by omega)
      have hvb : (v : Int) < 4294967296 := by simp only [Nat.reducePow] at hpow; omega
      have HL := Lib.hid hlt
      clear hpow hlt
      by_cases hks : k < s.size
      · have hg : s.data.toList[k]'(by omega) = s[k] := by rfl
        have hsn := hv_succ (l := s.data.toList) (k := k) (by omega)
        rw [hg] at hsn
        have HS := Lib.hid hsn
        have HM : Hid (s[k] ∈ s.data.toList) := Lib.hid (by rw [← hg]; exact List.getElem_mem _)
        clear hsn hg
        by_cases hd : 48 ≤ s[k].toNat ∧ s[k].toNat ≤ 57
        · have hin : inB (s[k].toNat : Int) 48 57 = true := inB_true (by omega) (by omega)
          obtain ⟨hd1, hd2⟩ := hd
          have fin : 16 * v + s[k].toNat - 48 = hv s.data.toList (k + 1) ∧ 16 * v + s[k].toNat - 48 < 16 ^ (k + 1) := by
            have h1 := HV.out
            have h2 := HL.out
            rw [HS.out, ← h1, Nat.pow_succ]
            unfold hval1
            rw [if_pos hd2]
            omega
          have F1 := Lib.hid fin
          clear fin
          go_wp2_with (first | (go_at_call 28; refine (digit_u8 _ _).mono ?_; rintro e w' ⟨rfl, rfl⟩))
          go_round
          case rel => exact ⟨k + 1, 16 * v + s[k].toNat - 48, by omega, by go_num, by go_num, F1.out.2, F1.out.1⟩
          case measure => simp [intOf]; omega
        · have hin : inB (s[k].toNat : Int) 48 57 = false := inB_false (by omega)
          by_cases hx : 97 ≤ s[k].toNat ∧ s[k].toNat ≤ 102
          · have hin2 : inB (s[k].toNat : Int) 97 102 = true := inB_true (by omega) (by omega)
            obtain ⟨hd1, hd2⟩ := hx
            have fin : 16 * v + s[k].toNat - 87 = hv s.data.toList (k + 1) ∧ 16 * v + s[k].toNat - 87 < 16 ^ (k + 1) := by
              have h1 := HV.out
              have h2 := HL.out
              rw [HS.out, ← h1, Nat.pow_succ]
              unfold hval1
              rw [if_neg (by omega)]
              omega
            have F1 := Lib.hid fin
            clear fin hd
            go_wp2_with (first | (go_at_call 28; refine (digit_u8 _ _).mono ?_; rintro e w' ⟨rfl, rfl⟩) | (go_at_call 27; refine (in_any _ _ _ _).mono ?_; rintro e w' ⟨rfl, rfl⟩))
            go_round
            case rel => exact ⟨k + 1, 16 * v + s[k].toNat - 87, by omega, by go_num, by go_num, F1.out.2, F1.out.1⟩
            case measure => simp [intOf]; omega
          · have hin2 : inB (s[k].toNat : Int) 97 102 = false := inB_false (by omega)
            have NO : Hid (∀ m : Nat, m < 4294967296 → s.data.toList ≠ hexDigits m) := Lib.hid fun m _ h => by
              have hm := HM.out
              rw [h] at hm
              rcases hex_all _ _ hm with h | h
              · exact hd h
              · exact hx h
            have hc256 := u8_le s[k]
            clear hd hx hvb
            go_wp2_with (first | (go_at_call 28; refine (digit_u8 _ _).mono ?_; rintro e w' ⟨rfl, rfl⟩) | (go_at_call 27; refine (in_any _ _ _ _).mono ?_; rintro e w' ⟨rfl, rfl⟩))
            go_ret2
            exact HexOut.no NO.out (Below.refl _ _)
      · have hke : k = s.size := by omega
        have hval : v = hval s.data.toList := by rw [HV.out]; unfold hv; rw [List.take_of_length_le (by omega)]
        have key : ∀ m : Nat, s.data.toList = hexDigits m → m = v := fun m h => by rw [hval, h, hval_hex]
        have KEY := Lib.hid key
        clear hval hke key
        by_cases he : hexDigits v = s.data.toList
        · have he1 : (!hexDigits v == s.toList) = false := by rw [ByteArray.toList_eq, he]; simp
          have HE := Lib.hid he
          clear he
          go_wp2_with (first | (go_at_call 17; refine (spec_hextext v (by omega) _).mono ?_; rintro e w' ⟨rfl, rfl⟩))
          go_ret2
          exact HexOut.yes (by omega) HE.out.symm (Below.refl _ _)
        · have he1 : (!hexDigits v == s.toList) = true := by rw [ByteArray.toList_eq]; simpa using he
          have HE := Lib.hid he
          clear he
          go_wp2_with (first | (go_at_call 17; refine (spec_hextext v (by omega) _).mono ?_; rintro e w' ⟨rfl, rfl⟩))
          go_ret2
          exact HexOut.no (fun m _ h => HE.out (by rw [h, KEY.out m h])) (Below.refl _ _)
  · have i1 : inB (s.size : Int) 1 8 = false := inB_false (by omega)
    go_enter Tryd.func18, Tryd.ntmps18
    go_wp2_with (first | (go_at_call 27; refine (in_any _ _ _ _).mono ?_; rintro e w' ⟨rfl, rfl⟩))
    go_ret2
    refine HexOut.no (fun m h0 h => hl ?_) (Below.refl _ _)
    have e1 := hex_len8 h0
    have e2 := List.length_pos_iff.2 (hex_ne m)
    rw [← h] at e1 e2
    omega
end Go.Proofs.YtfldaknhdggdiaaDoor
