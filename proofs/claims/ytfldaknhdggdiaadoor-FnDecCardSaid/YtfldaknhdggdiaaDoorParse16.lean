/-
  strconv's ParseUint at base 16 and 32 bits, as far as a caller asks who writes what was read back: a number or an error; and of a number's own text that number.
-/
import Derived.Test.YtfldaknhdggdiaaDoorHexMath
import Derived.Test.YtfldaknhdggdiaaDoorSmall
import Derived.Test.YtfldaknhdggdiaaDoorLaw
import Derived.Test.YtfldaknhdggdiaaDoorShelf
import Derived.Lib.ConvBytes
import Derived.Lib.AtoiErrMem
import Derived.Laws.BitsAllLaws
import Derived.Laws.BitsLemmas
import Derived.BigCall
import Derived.BigGuard
namespace Go.Proofs.YtfldaknhdggdiaaDoor
open Go.RowKit

theorem or32_fin : ∀ c : Fin 256, 97 ≤ c.val → c.val ≤ 102 → bits .or .u8 (c.val : Int) 32 = (c.val : Int) := by decide +kernel
theorem or32 (c : UInt8) (h0 : 97 ≤ c.toNat) (h1 : c.toNat ≤ 102) : bits .or .u8 (c.toNat : Int) 32 = (c.toNat : Int) := or32_fin ⟨c.toNat, c.toNat_lt⟩ h0 h1

/-- How the library's reading ends. -/
def Parsed (t : TypeId) (bs : List UInt8) (w : World) (e : Ending) (w' : World) : Prop :=
  ∃ (v : Int) (ev : Value), e = .returned (.tuple #[.int .u64 v, ev]) ∧ (0 ≤ v ∧ v < 18446744073709551616) ∧ (ev = .nilIface ∨ ev = .iface t (.int .i64 2) ∨ ev = .iface t (.int .i64 1)) ∧
    (∀ m : Nat, m < 4294967296 → bs = hexDigits m → ev = .nilIface ∧ v = m) ∧ Below w.heap.size w w'
theorem Parsed.no2 {t : TypeId} {bs : List UInt8} {w w' : World} {v : Int} (hv : 0 ≤ v ∧ v < 18446744073709551616) (h : ∀ m : Nat, m < 4294967296 → bs ≠ hexDigits m) (hb : Below w.heap.size w w') : Parsed t bs w (.returned (.tuple #[.int .u64 v, .iface t (.int .i64 2)])) w' :=
  ⟨v, _, rfl, hv, .inr (.inl rfl), fun m h0 h1 => absurd h1 (h m h0), hb⟩
theorem Parsed.no1 {t : TypeId} {bs : List UInt8} {w w' : World} {v : Int} (hv : 0 ≤ v ∧ v < 18446744073709551616) (h : ∀ m : Nat, m < 4294967296 → bs ≠ hexDigits m) (hb : Below w.heap.size w w') : Parsed t bs w (.returned (.tuple #[.int .u64 v, .iface t (.int .i64 1)])) w' :=
  ⟨v, _, rfl, hv, .inr (.inr rfl), fun m h0 h1 => absurd h1 (h m h0), hb⟩

theorem hval_take {bs : List UInt8} {k : Nat} (h : k < bs.length) : hval (bs.take (k + 1)) = 16 * hval (bs.take k) + hval1 bs[k] := by
  rw [List.take_succ_eq_append_getElem h, hval_snoc]
theorem hfold_ge : ∀ (l : List UInt8) (acc : Nat), acc ≤ l.foldl (fun a c => 16 * a + hval1 c) acc
  | [], acc => Nat.le_refl _
  | c :: r, acc => by
    have := hfold_ge r (16 * acc + hval1 c)
    simp only [List.foldl_cons]
    omega
theorem hval_take_le (bs : List UInt8) (k : Nat) : hval (bs.take k) ≤ hval bs := by
  conv => rhs; rw [← List.take_append_drop k bs]
  unfold hval
  rw [List.foldl_append]
  exact hfold_ge _ _
/-- Too great a number so far is no number's text. -/
theorem over_no {bs : List UInt8} {k : Nat} {a d : Int} (h : k < bs.length) (H : ∀ m : Nat, m < 4294967296 → bs = hexDigits m → a = (hval (bs.take k) : Int) ∧ d = (hval1 bs[k] : Int)) (ho : 4294967295 < a * 16 + d) : ∀ m : Nat, m < 4294967296 → bs ≠ hexDigits m := fun m hm e => by
  obtain ⟨h1, h2⟩ := H m hm e
  have h3 := hval_take_le bs (k + 1)
  rw [hval_take h] at h3
  have h4 : hval bs = m := by rw [e, hval_hex]
  omega

theorem next_ok {bs : List UInt8} {k : Nat} {a d : Int} (h : k < bs.length) (H : ∀ m : Nat, m < 4294967296 → bs = hexDigits m → a = (hval (bs.take k) : Int) ∧ d = (hval1 bs[k] : Int)) (_ : ¬ 4294967295 < a * 16 + d) : ∀ m : Nat, m < 4294967296 → bs = hexDigits m → a * 16 + d = (hval (bs.take (k + 1)) : Int) := fun m hm e => by
  obtain ⟨h1, h2⟩ := H m hm e
  rw [hval_take h]
  omega

set_option maxHeartbeats 8000000 in
set_option maxRecDepth 100000 in
theorem parse16_in (t : ByteArray) (hmax : t.size ≤ 1048576) (w : World) :
    Calls Tryd.prog 33 #[.string t, .int .i64 16, .int .i64 32] w (Parsed 58 t.data.toList w) := by
  by_cases hne : t.size = 0
  · have hemp : t.toList.isEmpty = true := by
      rw [ByteArray.toList_eq]
      have : t.data.toList.length = 0 := by simpa using hne
      rw [List.length_eq_zero_iff.1 this]; rfl
    have NO : Hid (∀ m : Nat, m < 4294967296 → t.data.toList ≠ hexDigits m) := Lib.hid fun m _ e => hex_ne m (by rw [← e]; exact List.length_eq_zero_iff.1 (by simpa using hne))
    clear hne
    go_enter Tryd.func33, Tryd.ntmps33
    go_wp2
    go_ret2
    exact Parsed.no2 ⟨by decide, by decide⟩ NO.out (Below.refl _ _)
  · have hemp : t.toList.isEmpty = false := by
      rw [ByteArray.toList_eq]
      have : t.data.toList ≠ [] := fun h => hne (by have := congrArg List.length h; simpa using this)
      simpa using this
    have hcv := Lib.run_convert_string_bytes (P := Tryd.prog) w 9 22 5 t (u := .string) Tryd.underlying9 Tryd.underlying22 Tryd.underlying5
    have hB : ∀ j, j < t.size → (Lib.bytesWorld w 5 t).cell? ⟨w.heap.size, j, none⟩ = some (.int .u8 (t.data.toList.getD j 0).toNat) := fun j hj => Lib.bytesWorld_cell w 5 t j hj
    have HW : Hid (Below w.heap.size w (Lib.bytesWorld w 5 t)) := Lib.hid (Lib.bytesWorld_below _ _ _)
    obtain ⟨W1, hW1⟩ : ∃ W1, W1 = Lib.bytesWorld w 5 t := ⟨_, rfl⟩
    rw [← hW1] at hcv hB HW
    clear hW1 hne
    obtain ⟨bs, hL⟩ : ∃ bs, bs = t.data.toList := ⟨_, rfl⟩
    have hLn : bs.length = t.size := by rw [hL]; simp
    rw [← hL] at hB ⊢
    clear hL
    go_enter Tryd.func33, Tryd.ntmps33
    go_wp2
    go_loop [12, 13, 101] (fun vu vn vi => ∃ (k : Nat) (a : Int), vu = .bool false ∧ vn = .int .u64 a ∧ vi = .int .i64 k ∧ k ≤ t.size ∧ 0 ≤ a ∧ a ≤ 4294967295 ∧ Hid (∀ m : Nat, m < 4294967296 → bs = hexDigits m → a = (hval (bs.take k) : Int)))
      (fun _ _ vi => t.size - (intOf vi).toNat)
    case atStart => exact ⟨0, 0, rfl, rfl, rfl, by omega, by omega, by omega, fun _ _ _ => by simp [hval]⟩
    case round =>
      obtain ⟨k, a, rfl, rfl, rfl, hk, ha0, ha1, HA⟩ := hrel
      by_cases hkn : k < t.size
      · have hc := hB k hkn
        have hget : bs.getD k 0 = bs[k]'(by omega) := by simp [List.getD, List.getElem?_eq_getElem (show k < bs.length by omega)]
        rw [hget] at hc
        obtain ⟨c, hcb⟩ : ∃ c, c = bs[k]'(by omega) := ⟨_, rfl⟩
        rw [← hcb] at hc
        have HC := Lib.hid hcb
        have hc256 : c.toNat < 256 := c.toNat_lt
        clear hB hget hcb
        by_cases hdig : 48 ≤ c.toNat ∧ c.toNat ≤ 57
        · obtain ⟨hd0, hd1⟩ := hdig
          have HD : Hid (∀ m : Nat, m < 4294967296 → bs = hexDigits m → a = (hval (bs.take k) : Int) ∧ ((c.toNat : Int) - 48) = (hval1 (bs[k]'(by omega)) : Int)) := Lib.hid fun m hm e => ⟨HA.out m hm e, by rw [← HC.out]; unfold hval1; rw [if_pos hd1]; omega⟩
          by_cases ho : 4294967295 < a * 16 + ((c.toNat : Int) - 48)
          · have NO := Lib.hid (over_no (by omega) HD.out ho)
            go_wp2
            go_ret2
            exact Parsed.no1 ⟨by decide, by decide⟩ NO.out HW.out
          · have fin := next_ok (by omega) HD.out ho
            have FIN := Lib.hid fin
            clear fin
            have ho2 : a * 16 + ((c.toNat : Int) - 48) ≤ 4294967295 := by omega
            go_wp2
            refine ⟨⟨k + 1, a * 16 + ((c.toNat : Int) - 48), rfl, (by first | rfl | (congr 1; omega)), (by first | rfl | (congr 1; omega)), by omega, by omega, by omega, FIN.out⟩, by simp [intOf]; omega⟩
        · have hv0 := bits_lo_u8 .or (c.toNat : Int) 32
          have hv1 := bits_hi_u8 .or (c.toNat : Int) 32
          have hu0 := bits_lo_u8 .or 95 32
          have hu1 := bits_hi_u8 .or 95 32
          by_cases hL : 97 ≤ bits .or .u8 (c.toNat : Int) 32 ∧ bits .or .u8 (c.toNat : Int) 32 ≤ 102
          · have HD : Hid (∀ m : Nat, m < 4294967296 → bs = hexDigits m → a = (hval (bs.take k) : Int) ∧ (bits .or .u8 (c.toNat : Int) 32 - 97 + 10) = (hval1 (bs[k]'(by omega)) : Int)) := Lib.hid fun m hm e => ⟨HA.out m hm e, by
              have hx := hex_all m (bs[k]'(by omega)) (by rw [← e]; exact List.getElem_mem _)
              rw [← HC.out] at hx ⊢
              unfold HexB at hx
              unfold hval1
              rcases hx with hx | hx
              · exact absurd hx hdig
              · rw [if_neg (by omega), or32 c hx.1 hx.2]; omega⟩
            obtain ⟨hL0, hL1⟩ := hL
            obtain ⟨x, hx⟩ : ∃ x, bits .or .u8 (c.toNat : Int) 32 = x := ⟨_, rfl⟩
            have h95 : ((c.toNat : Int) == 95) = false := by
              have : c.toNat ≠ 95 := fun h => by
                rw [h] at hL1
                exact absurd hL1 (by decide +kernel)
              simp; omega
            rw [hx] at HD hL0 hL1 hv0 hv1
            clear hu0 hu1
            by_cases ho : 4294967295 < a * 16 + (x - 97 + 10)
            · have NO := Lib.hid (over_no (by omega) HD.out ho)
              go_wp2_with (go_at_call 41; refine (Tryd.internal_strconv_lower _ _).mono ?_; rintro e w' ⟨rfl, rfl⟩)
              all_goals go_ret2
              all_goals exact Parsed.no1 ⟨by decide, by decide⟩ NO.out HW.out
            · have fin := next_ok (by omega) HD.out ho
              have FIN := Lib.hid fin
              clear fin
              have ho2 : a * 16 + (x - 97 + 10) ≤ 4294967295 := by omega
              go_wp2_with (go_at_call 41; refine (Tryd.internal_strconv_lower _ _).mono ?_; rintro e w' ⟨rfl, rfl⟩)
              all_goals refine ⟨⟨k + 1, a * 16 + (x - 97 + 10), rfl, (by first | rfl | (congr 1; omega)), (by first | rfl | (congr 1; omega)), by omega, by omega, by omega, FIN.out⟩, by simp [intOf]; omega⟩
          · have NO : Hid (∀ m : Nat, m < 4294967296 → bs ≠ hexDigits m) := Lib.hid fun m _ e => by
              have hx := hex_all m (bs[k]'(by omega)) (by rw [← e]; exact List.getElem_mem _)
              rw [← HC.out] at hx
              unfold HexB at hx
              rcases hx with hx | hx
              · exact hdig hx
              · rw [or32 c hx.1 hx.2] at hL; omega
            go_wp2_with (go_at_call 41; refine (Tryd.internal_strconv_lower _ _).mono ?_; rintro e w' ⟨rfl, rfl⟩)
            all_goals go_ret2
            all_goals exact Parsed.no2 ⟨by decide, by decide⟩ NO.out HW.out
      · have hkk : k = t.size := by omega
        subst hkk
        have hF := HA.out
        rw [List.take_of_length_le (by omega)] at hF
        have FIN : Hid (∀ m : Nat, m < 4294967296 → bs = hexDigits m → a = (m : Int)) := Lib.hid fun m hm e => by have h2 := hF m hm e; rw [e, hval_hex] at h2; exact h2
        clear hF HA
        go_wp2
        go_ret2
        exact ⟨a, .nilIface, rfl, ⟨by omega, by omega⟩, .inl rfl, fun m hm e => ⟨rfl, FIN.out m hm e⟩, HW.out⟩
end Go.Proofs.YtfldaknhdggdiaaDoor
