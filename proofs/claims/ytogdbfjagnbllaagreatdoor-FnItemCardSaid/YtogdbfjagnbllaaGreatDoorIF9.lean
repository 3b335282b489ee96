/-
  strconv's ParseUint at base 16 and 32 bits, as far as a caller asks who writes what was read back: a number or an error; and of a number's own text that number.
  What the listed package-level variables give a walk: strconv's two errors.
  impl.ReadHex reads the number whose digits in base 16 its argument is; laws.FnExactReadHex answers true at every text.
  What the program reads behind each mark: the readers, one by one.
  The program's reader of a mark: which function it is.
-/
import Derived.Test.YtogdbfjagnbllaaGreatDoorIF7
import Derived.Test.YtogdbfjagnbllaaGreatDoorIF1
import Derived.Test.YtogdbfjagnbllaaGreatDoorShelf
import Derived.Lib.ConvBytes
import Derived.Lib.AtoiErrMem
import Derived.Laws.BitsAllLaws
import Derived.Laws.BitsLemmas
import Derived.BigCall
import Derived.BigGuard
import Derived.Test.YtogdbfjagnbllaaGreatDoorIF8
namespace Go.Proofs.YtogdbfjagnbllaaGreatDoor
open Go.RowKit

theorem or32_fin : ∀ c : Fin 256, 97 ≤ c.val → c.val ≤ 102 → bits .or .u8 (c.val : Int) 32 = (c.val : Int) := by decide +kernel
theorem or32 (c : UInt8) (h0 : 97 ≤ c.toNat) (h1 : c.toNat ≤ 102) : bits .or .u8 (c.toNat : Int) 32 = (c.toNat : Int) := or32_fin ⟨c.toNat, c.toNat_lt⟩ h0 h1

/-- How the library's reading ends. -/
def Parsed (t : TypeId) (bs : List UInt8) (w : World) (e : Ending) (w' : World) : Prop :=
  ∃ (v : Int) (ev : Value), e = .returned (.tuple #[.int .u64 v, ev]) ∧ (0 ≤ v ∧ v < 18446744073709551616) ∧ (ev = .nilIface ∨ ev = .iface t (.int .i64 2) ∨ ev = .iface t (.int .i64 1)) ∧
    (∀ m : Nat, m < 4294967296 → bs = hexDigits m → ev = .nilIface ∧ v = m) ∧ Below w.heap.size w w'
theorem Parsed.no2 {t : TypeId} {bs : List UInt8} {w w' : World} {v : Int} (hv : 0 ≤ v ∧ v < 18446744073709551616) (h : ∀ m : Nat, m < 4294967296 → bs ≠ hexDigits m) (hb : Below w.heap.size w w') : Parsed t bs w (.returned (.tuple #[.int .u64 v, .iface t (.int .i64 2)])) w' :=
  ⟨v, _, rfl, hv, .inr (.inl rfl), fun m h0 h1 => absurd h1 (h m h0), hb⟩
theorem Parsed.no1 {t : TypeId} {bs : List UInt8} {w w' : World} {v : Int} (hv : 0 ≤ v ∧ v < 18446744073709551616) (h : ∀ m : Nat, m < 4294967296 → bs ≠ hexDigits m) (hb : Below w.heap.size w w') : Parsed t bs w (.returned (.tuple #[.int .u64 v, .iface t (.int .i64 1)])) w' :=
  ⟨v, _, rfl, hv, .inr (.inr rfl), fun m h0 h1 => absurd h1 (h m h0), hb⟩

theorem hval_take {bs : List UInt8} {k : Nat} (h : k < bs.length) : hval (bs.take (k + 1)) = 16 * hval (bs.take k) + hval1 bs[k] := by
  rw [List.take_succ_eq_append_getElem h, hval_snoc]
theorem hfold_ge : ∀ (l : List UInt8) (acc : Nat), acc ≤ l.foldl (fun a c => 16 * a + hval1 c) acc
  | [], acc => Nat.le_refl _
  | c :: r, acc => by
    have := hfold_ge r (16 * acc + hval1 c)
    simp only [List.foldl_cons]
    omega
theorem hval_take_le (bs : List UInt8) (k : Nat) : hval (bs.take k) ≤ hval bs := by
  conv => rhs; rw [← List.take_append_drop k bs]
  unfold hval
  rw [List.foldl_append]
  exact hfold_ge _ _
/-- Too great a number so far is no number's text. -/
theorem over_no {bs : List UInt8} {k : Nat} {a d : Int} (h : k < bs.length) (H : ∀ m : Nat, m < 4294967296 → bs = hexDigits m → a = (hval (bs.take k) : Int) ∧ d = (hval1 bs[k] : Int)) (ho : 4294967295 < a * 16 + d) : ∀ m : Nat, m < 4294967296 → bs ≠ hexDigits m := fun m hm e => by
  obtain ⟨h1, h2⟩ := H m hm e
  have h3 := hval_take_le bs (k + 1)
  rw [hval_take h] at h3
  have h4 : hval bs = m := by rw [e, hval_hex]
  omega

theorem next_ok {bs : List UInt8} {k : Nat} {a d : Int} (h : k < bs.length) (H : ∀ m : Nat, m < 4294967296 → bs = hexDigits m → a = (hval (bs.take k) : Int) ∧ d = (hval1 bs[k] : Int)) (_ : ¬ 4294967295 < a * 16 + d) : ∀ m : Nat, m < 4294967296 → bs = hexDigits m → a * 16 + d = (hval (bs.take (k + 1)) : Int) := fun m hm e => by
  obtain ⟨h1, h2⟩ := H m hm e
  rw [hval_take h]
  omega

set_option maxHeartbeats 8000000 in
set_option maxRecDepth 100000 in
theorem parse16_in (t : ByteArray) (hmax : t.size ≤ 1048576) (w : World) :
    Calls Tryz.prog 140 #[.string t, .int .i64 16, .int .i64 32] w (Parsed 178 t.data.toList w) := by
  by_cases hne : t.size = 0
  · have hemp : t.toList.isEmpty = true := by
      rw [ByteArray.toList_eq]
      have : t.data.toList.length = 0 := by simpa using hne
      rw [List.length_eq_zero_iff.1 this]; rfl
    have NO : Hid (∀ m : Nat, m < 4294967296 → t.data.toList ≠ hexDigits m) := Lib.hid fun m _ e => hex_ne m (by rw [← e]; exact List.length_eq_zero_iff.1 (by simpa using hne))
    clear hne
    go_enter Tryz.func140, Tryz.ntmps140
    go_wp2
    go_ret2
    exact Parsed.no2 ⟨by decide, by decide⟩ NO.out (Below.refl _ _)
  · have hemp : t.toList.isEmpty = false := by
      rw [ByteArray.toList_eq]
      have : t.data.toList ≠ [] := fun h => hne (by have := congrArg List.length h; simpa using this)
      simpa using this
    have hcv := Lib.run_convert_string_bytes (P := Tryz.prog) w 9 22 5 t (u := .string) Tryz.underlying9 Tryz.underlying22 Tryz.underlying5
    have hB : ∀ j, j < t.size → (Lib.bytesWorld w 5 t).cell? ⟨w.heap.size, j, none⟩ = some (.int .u8 (t.data.toList.getD j 0).toNat) := fun j hj => Lib.bytesWorld_cell w 5 t j hj
    have HW : Hid (Below w.heap.size w (Lib.bytesWorld w 5 t)) := Lib.hid (Lib.bytesWorld_below _ _ _)
    obtain ⟨W1, hW1⟩ : ∃ W1, W1 = Lib.bytesWorld w 5 t := ⟨_, rfl⟩
    rw [← hW1] at hcv hB HW
    clear hW1 hne
    obtain ⟨bs, hL⟩ : ∃ bs, bs = t.data.toList := ⟨_, rfl⟩
    have hLn : bs.length = t.size := by rw [hL]; simp
    rw [← hL] at hB ⊢
    clear hL
    go_enter Tryz.func140, Tryz.ntmps140
    go_wp2
    go_loop [12, 13, 101] (fun vu vn vi => ∃ (k : Nat) (a : Int), vu = .bool false ∧ vn = .int .u64 a ∧ vi = .int .i64 k ∧ k ≤ t.size ∧ 0 ≤ a ∧ a ≤ 4294967295 ∧ Hid (∀ m : Nat, m < 4294967296 → bs = hexDigits m → a = (hval (bs.take k) : Int)))
      (fun _ _ vi => t.size - (intOf vi).toNat)
    case atStart => exact ⟨0, 0, rfl, rfl, rfl, by omega, by omega, by omega, fun _ _ _ => by simp [hval]⟩
    case round =>
      obtain ⟨k, a, rfl, rfl, rfl, hk, ha0, ha1, HA⟩ := hrel
      by_cases hkn : k < t.size
      · have hc := hB k hkn
        have hget : bs.getD k 0 = bs[k]'(by omega) := by simp [List.getD, List.getElem?_eq_getElem (show k < bs.length by omega)]
        rw [hget] at hc
        obtain ⟨c, hcb⟩ : ∃ c, c = bs[k]'(by omega) := ⟨_, rfl⟩
        rw [← hcb] at hc
        have HC := Lib.hid hcb
        have hc256 : c.toNat < 256 := c.toNat_lt
        clear hB hget hcb
        by_cases hdig : 48 ≤ c.toNat ∧ c.toNat ≤ 57
        · obtain ⟨hd0, hd1⟩ := hdig
          have HD : Hid (∀ m : Nat, m < 4294967296 → bs = hexDigits m → a = (hval (bs.take k) : Int) ∧ ((c.toNat : Int) - 48) = (hval1 (bs[k]'(by omega)) : Int)) := Lib.hid fun m hm e => ⟨HA.out m hm e, by rw [← HC.out]; unfold hval1; rw [if_pos hd1]; omega⟩
          by_cases ho : 4294967295 < a * 16 + ((c.toNat : Int) - 48)
          · have NO := Lib.hid (over_no (by omega) HD.out ho)
            go_wp2
            go_ret2
            exact Parsed.no1 ⟨by decide, by decide⟩ NO.out HW.out
          · have fin := next_ok (by omega) HD.out ho
            have FIN := Lib.hid fin
            clear fin
            have ho2 : a * 16 + ((c.toNat : Int) - 48) ≤ 4294967295 := by omega
            go_wp2
            refine ⟨⟨k + 1, a * 16 + ((c.toNat : Int) - 48), rfl, (by first | rfl | (congr 1; omega)), (by first | rfl | (congr 1; omega)), by omega, by omega, by omega, FIN.out⟩, by simp [intOf]; omega⟩
        · have hv0 := bits_lo_u8 .or (c.toNat : Int) 32
          have hv1 := bits_hi_u8 .or (c.toNat : Int) 32
          have hu0 := bits_lo_u8 .or 95 32
          have hu1 := bits_hi_u8 .or 95 32
          by_cases hL : 97 ≤ bits .or .u8 (c.toNat : Int) 32 ∧ bits .or .u8 (c.toNat : Int) 32 ≤ 102
          · have HD : Hid (∀ m : Nat, m < 4294967296 → bs = hexDigits m → a = (hval (bs.take k) : Int) ∧ (bits .or .u8 (c.toNat : Int) 32 - 97 + 10) = (hval1 (bs[k]'(by omega)) : Int)) := Lib.hid fun m hm e => ⟨HA.out m hm e, by
              have hx := hex_all m (bs[k]'(by omega)) (by rw [← e]; exact List.getElem_mem _)
              rw [← HC.out] at hx ⊢
              unfold HexB at hx
              unfold hval1
              rcases hx with hx | hx
              · exact absurd hx hdig
              · rw [if_neg (by omega), or32 c hx.1 hx.2]; omega⟩
            obtain ⟨hL0, hL1⟩ := hL
            obtain ⟨x, hx⟩ : ∃ x, bits .or .u8 (c.toNat : Int) 32 = x := ⟨_, rfl⟩
            have h95 : ((c.toNat : Int) == 95) = false := by
              have : c.toNat ≠ 95 := fun h => by
                rw [h] at hL1
                exact absurd hL1 (by decide +kernel)
              simp; omega
            rw [hx] at HD hL0 hL1 hv0 hv1
            clear hu0 hu1
            by_cases ho : 4294967295 < a * 16 + (x - 97 + 10)
            · have NO := Lib.hid (over_no (by omega) HD.out ho)
              go_wp2_with (go_at_call 154; refine (Tryz.internal_strconv_lower _ _).mono ?_; rintro e w' ⟨rfl, rfl⟩)
              all_goals go_ret2
              all_goals exact Parsed.no1 ⟨by decide, by decide⟩ NO.out HW.out
            · have fin := next_ok (by omega) HD.out ho
              have FIN := Lib.hid fin
              clear fin
              have ho2 : a * 16 + (x - 97 + 10) ≤ 4294967295 := by omega
              go_wp2_with (go_at_call 154; refine (Tryz.internal_strconv_lower _ _).mono ?_; rintro e w' ⟨rfl, rfl⟩)
              all_goals refine ⟨⟨k + 1, a * 16 + (x - 97 + 10), rfl, (by first | rfl | (congr 1; omega)), (by first | rfl | (congr 1; omega)), by omega, by omega, by omega, FIN.out⟩, by simp [intOf]; omega⟩
          · have NO : Hid (∀ m : Nat, m < 4294967296 → bs ≠ hexDigits m) := Lib.hid fun m _ e => by
              have hx := hex_all m (bs[k]'(by omega)) (by rw [← e]; exact List.getElem_mem _)
              rw [← HC.out] at hx
              unfold HexB at hx
              rcases hx with hx | hx
              · exact hdig hx
              · rw [or32 c hx.1 hx.2] at hL; omega
            go_wp2_with (go_at_call 154; refine (Tryz.internal_strconv_lower _ _).mono ?_; rintro e w' ⟨rfl, rfl⟩)
            all_goals go_ret2
            all_goals exact Parsed.no2 ⟨by decide, by decide⟩ NO.out HW.out
      · have hkk : k = t.size := by omega
        subst hkk
        have hF := HA.out
        rw [List.take_of_length_le (by omega)] at hF
        have FIN : Hid (∀ m : Nat, m < 4294967296 → bs = hexDigits m → a = (m : Int)) := Lib.hid fun m hm e => by have h2 := hF m hm e; rw [e, hval_hex] at h2; exact h2
        clear hF HA
        go_wp2
        go_ret2
        exact ⟨a, .nilIface, rfl, ⟨by omega, by omega⟩, .inl rfl, fun m hm e => ⟨rfl, FIN.out m hm e⟩, HW.out⟩
end Go.Proofs.YtogdbfjagnbllaaGreatDoor

namespace Go.Proofs.YtogdbfjagnbllaaGreatDoor
open Go.ChangeShapes Go.WideShapes Go.ChangeAt Go.RowKit

abbrev tabsErr : List (String × DataW Unit) := [("math/bits.deBruijn32tab", Rows.laid_math_bits_deBruijn32tab), ("math/bits.deBruijn64tab", Rows.laid_math_bits_deBruijn64tab), ("internal/strconv.uint64pow10", Rows.laid_internal_strconv_uint64pow10), ("strconv.ErrRange", Rows.laid_strconv_ErrRange), ("strconv.ErrSyntax", Rows.laid_strconv_ErrSyntax)]
theorem gSyn : Tryz.prog.globalNamed "strconv.ErrSyntax" = some 4 := by kernel_rfl
theorem gRan : Tryz.prog.globalNamed "strconv.ErrRange" = some 5 := by kernel_rfl
theorem tSyn : (Tryz.prog.globals[4]?).map (·.type) = some 57 := by kernel_rfl
theorem tRan : (Tryz.prog.globals[5]?).map (·.type) = some 57 := by kernel_rfl

/-- A listed variable of an interface type, laid with a value, holds an interface value. -/
theorem iface_of_head {P : Program} {n nm : String} {d : DataW Unit} {r : List (String × DataW Unit)} {W : World} {g : Nat} {ti : TypeId} {ms : Array (String × TypeId)}
    (h : laidMet P ((n, .iface nm d) :: r) W) (hg : P.globalNamed n = some g) (ht : (P.globals[g]?).map (·.type) = some ti) (hi : P.underlying ti = some (.interface ms)) : ∃ t p, W.cell? ⟨g, 0, none⟩ = some (.iface t p) := by
  obtain ⟨ps, ⟨g0, t0, cs0, f0, p0, q0, hg0, ht0, hv0, hd0, _, e0⟩, _, hrows⟩ := h
  obtain rfl := Option.some.inj (hg.symm.trans hg0)
  obtain rfl := Option.some.inj (ht.symm.trans ht0)
  obtain ⟨l0⟩ := cs0
  cases f0 with
  | zero => simp [DataW.trod] at hd0
  | succ f =>
    have hc := fun i => World.var?_cell hg0 hv0 i
    rcases l0 with _ | ⟨v, _ | ⟨v2, r2⟩⟩
    · simp [DataW.trod, hi] at hd0
    · cases v
      case iface u x => exact ⟨u, x, by simpa using hc 0⟩
      all_goals simp [DataW.trod, hi] at hd0
    · simp [DataW.trod, hi] at hd0
theorem errs_of_laid {W : World} (h : laidMet Tryz.prog (tabsErr ++ []) W) : (∃ t p, W.cell? ⟨4, 0, none⟩ = some (.iface t p)) ∧ (∃ t p, W.cell? ⟨5, 0, none⟩ = some (.iface t p)) := by
  have h3 := laidMet.tail (laidMet.tail (laidMet.tail h))
  exact ⟨iface_of_head (laidMet.tail h3) gSyn tSyn Tryz.underlying57, iface_of_head h3 gRan tRan Tryz.underlying57⟩
theorem tabsErr_met (os : Os) (args : Array Value) : laidMetH Tryz.prog tabsErr ((World.doorLaid Tryz.prog 400 os).forCall (fun _ _ => 0) ⟨#[], args, []⟩).memory :=
  laidMetH_of_parts3 (fuel := 8) (laidMet_of_run' 8 (by kernel_rfl) (by kernel_rfl)) (by kernel_rfl) (by kernel_rfl)
theorem tabsErr_plain (W : World) : laidMetH Tryz.prog tabsErr W = laidMet Tryz.prog (tabsErr ++ []) W := MakeChecks.laidMetH_plain _ _ _ (by kernel_rfl)
end Go.Proofs.YtogdbfjagnbllaaGreatDoor

namespace Go.Proofs.YtogdbfjagnbllaaGreatDoor
open Go.RowKit

/-- What the calls ask of the library's two errors. -/
def Errs (w : World) : Prop := ((∃ t p, w.cell? ⟨4, 0, none⟩ = some (.iface t p)) ∧ ∃ t p, w.cell? ⟨5, 0, none⟩ = some (.iface t p)) ∧ 4 < w.heap.size ∧ 5 < w.heap.size
theorem lt_of_cell {w : World} {g : Nat} {v : Value} (h : w.cell? ⟨g, 0, none⟩ = some v) : g < w.heap.size := by
  rcases Nat.lt_or_ge g w.heap.size with hl | hl
  · exact hl
  · have e : w.heap[g]? = none := Array.getElem?_eq_none hl
    simp [World.cell?, e] at h
theorem Errs.of {w : World} (h0 : ∃ t p, w.cell? ⟨4, 0, none⟩ = some (.iface t p)) (h1 : ∃ t p, w.cell? ⟨5, 0, none⟩ = some (.iface t p)) : Errs w := by
  obtain ⟨t, p, h0⟩ := h0
  obtain ⟨t1, p1, h1⟩ := h1
  exact ⟨⟨⟨t, p, h0⟩, t1, p1, h1⟩, lt_of_cell h0, lt_of_cell h1⟩
theorem Errs.below {w w' : World} (h : Errs w) (hb : Below w.heap.size w w') : Errs w' := by
  obtain ⟨⟨⟨t, p, h0⟩, t1, p1, h1⟩, l0, l1⟩ := h
  exact .of ⟨t, p, (hb.cell (p := ⟨_, _, none⟩) l0).trans h0⟩ ⟨t1, p1, (hb.cell (p := ⟨_, _, none⟩) l1).trans h1⟩

/-- strconv.ParseUint(s, 16, 32), as far as a caller that writes what was read back asks. -/
def ParsedOut (bs : List UInt8) (w : World) (e : Ending) (w' : World) : Prop :=
  Below w.heap.size w w' ∧ ((∃ v : Int, (0 ≤ v ∧ v < 18446744073709551616) ∧ e = .returned (.tuple #[.int .u64 v, .nilIface]) ∧ (∀ m : Nat, m < 4294967296 → bs = hexDigits m → v = m)) ∨
    (∃ v t p, e = .returned (.tuple #[.int .u64 v, .iface t p]) ∧ ∀ m : Nat, m < 4294967296 → bs ≠ hexDigits m))
theorem parse16 (s : ByteArray) (hs : s.size ≤ 1048576) (w : World) (he : Errs w) :
    Calls Tryz.prog 122 #[.string s, .int .i64 16, .int .i64 32] w (ParsedOut s.data.toList w) := by
  have HC := Lib.hid (parse16_in s hs w)
  have HE := Lib.hid he
  clear he
  go_enter Tryz.func122, Tryz.ntmps122
  go_wp2_with fail
  refine HC.out.mono ?_
  rintro e w1 ⟨v, ev, rfl, hv, hev, hm, hb⟩
  have HM := Lib.hid hm
  have HV := Lib.hid hv
  clear hm hv
  rcases hev with rfl | rfl | rfl
  · go_wp2_with fail
    go_ret2
    exact ⟨hb, .inl ⟨v, HV.out, rfl, fun m h0 h1 => (HM.out m h0 h1).2⟩⟩
  · obtain ⟨t, p, hc⟩ := (HE.out.below hb).1.1
    have HT := Lib.hid (fun fn base bits => Any.strconv_toError_syntax Tryz.laysC245 fn s base bits _ w1 (by omega) hc (.inr ⟨t, p, rfl⟩))
    clear hc
    go_wp2_with fail
    refine (HT.out _ _ _).mono ?_
    rintro e w2 ⟨N, rfl, -, -, hb2⟩
    go_wp2_with fail
    go_ret2
    exact ⟨hb.trans (hb2.mono hb.size), .inr ⟨_, _, _, rfl, fun m h0 h1 => by cases (HM.out m h0 h1).1⟩⟩
  · obtain ⟨t, p, hc⟩ := (HE.out.below hb).1.2
    have HT := Lib.hid (fun fn base bits => Tryz.strconv_toError_range fn s base bits _ w1 (by omega) hc (.inr ⟨t, p, rfl⟩))
    clear hc
    go_wp2_with fail
    refine (HT.out _ _ _).mono ?_
    rintro e w2 ⟨N, rfl, -, -, hb2⟩
    go_wp2_with fail
    go_ret2
    exact ⟨hb.trans (hb2.mono hb.size), .inr ⟨_, _, _, rfl, fun m h0 h1 => by cases (HM.out m h0 h1).1⟩⟩

set_option maxRecDepth 100000 in
theorem impl_readhex (s : ByteArray) (hs : s.size ≤ 1048576) (w : World) (he : Errs w) (hd : Deb w) :
    Calls Tryz.prog 103 #[.string s] w (HexOut s.data.toList w) := by
  have HC := Lib.hid (parse16 s hs w he)
  have HD := Lib.hid hd
  clear he hd
  go_enter Tryz.func103, Tryz.ntmps103
  go_wp2_with fail
  refine HC.out.mono ?_
  rintro e w1 ⟨hb, ⟨v, hv, rfl, hm⟩ | ⟨v, t, p, rfl, no⟩⟩
  · obtain ⟨n, hn, hnb⟩ : ∃ n : Nat, IntKind.u32.wrap v = (n : Int) ∧ n < 4294967296 := ⟨(v % 4294967296).toNat, by rw [IntKind.wrap_u32]; omega, by omega⟩
    have key : ∀ m : Nat, m < 4294967296 → s.data.toList = hexDigits m → m = n := fun m h0 h1 => by
      have := hm m h0 h1
      rw [IntKind.wrap_u32] at hn
      omega
    have KEY := Lib.hid key
    have HI := Lib.hid (impl_hextext n hnb w1 (HD.out.below hb))
    clear hm hv key
    by_cases hq : hexDigits n = s.data.toList
    · have he1 : (!hexDigits n == s.toList) = false := by rw [ByteArray.toList_eq, hq]; simp
      have HQ := Lib.hid hq
      clear hq
      go_wp2_with (go_at_call 55; refine HI.out.mono ?_; rintro e w2 ⟨rfl, hb2⟩)
      go_ret2
      exact HexOut.yes hnb HQ.out.symm (hb.trans (hb2.mono hb.size))
    · have he1 : (!hexDigits n == s.toList) = true := by rw [ByteArray.toList_eq]; simpa using hq
      have HQ := Lib.hid hq
      clear hq
      go_wp2_with (go_at_call 55; refine HI.out.mono ?_; rintro e w2 ⟨rfl, hb2⟩)
      go_ret2
      exact HexOut.no (fun m h0 h => HQ.out (by rw [h, KEY.out m h0 h])) (hb.trans (hb2.mono hb.size))
  · have NO := Lib.hid no
    clear no
    go_wp2_with fail
    go_ret2
    exact HexOut.no NO.out hb

end Go.Proofs.YtogdbfjagnbllaaGreatDoor

namespace Go.Proofs.YtogdbfjagnbllaaGreatDoor
open Go.RowKit Go

/-- What the readers ask of memory. -/
structure ReadIn (w : World) : Prop where
  text : TextIn w
  errs : Errs w
  max : ∃ m : Int, w.cell? ⟨1, 0, none⟩ = some (.int .i64 m)
theorem ReadIn.below {w w' : World} (h : ReadIn w) (hb : Below w.heap.size w w') : ReadIn w' :=
  ⟨h.text.below hb, h.errs.below hb, by obtain ⟨m, hm⟩ := h.max; exact ⟨m, (hb.cell (lt_of_cell_tab hm)).trans hm⟩⟩
theorem ReadIn.alloc {w : World} (h : ReadIn w) (o : Obj) : ReadIn (w.alloc o) := h.below ((Below.refl _ _).alloc (Nat.le_refl _) _)
/-- What a reader tells. -/
def ReadEnd (c : UInt8) (l : List UInt8) (w : World) (e : Ending) (w' : World) : Prop := ∃ it : It, e = .returned (itVal it) ∧ OnlyItem c l it ∧ Below w.heap.size w w'
theorem sgn_wrap {n : Nat} (h : n < 4294967296) : wrap32 (n : Int) = sgn n := by unfold wrap32 sgn; split <;> omega

set_option maxRecDepth 100000 in
set_option maxHeartbeats 2000000 in
theorem read_raw (s : ByteArray) (hs : s.size ≤ 1048576) (w : World) (hi : ReadIn w) : Calls Tryz.prog 77 #[.string s] w (ReadEnd 37 s.data.toList w) := by
  have HC := Lib.hid (fun o => impl_readhex s hs (w.alloc o) (hi.alloc o).errs (hi.alloc o).text.deb)
  clear hi hs
  go_enter Tryz.func77, Tryz.ntmps77
  go_wp2_with fail
  refine (HC.out _).mono ?_
  rintro e w1 ⟨n, b, rfl, hr, hb1⟩
  have hn : n < 4294967296 := by rcases hr with ⟨_, h, _⟩ | ⟨_, h, _⟩ <;> omega
  have HO := Lib.hid (only_raw hr hn)
  have hx1 := box_mono (box_start w _) (hb1.mono (by simp))
  have k1 : Blk w1 w.heap.size 38 (itC 0 ⟨#[]⟩ 0 false 0) := res_blk hx1
  have HB := Lib.hid (box_below hx1)
  obtain ⟨d0, d1, d2, d3, d4, f0, f1, f2, f3, f4⟩ := itC_cells k1
  have K1 := Lib.hid k1
  clear hb1 hx1 k1 hr hn
  go_wp2_with fail
  have hk := putIt_blk K1.out 0 ⟨#[]⟩ 0 false (n : Int)
  have hbl := putIt_below (g := w.heap.size) HB.out (Nat.le_refl _) 0 ⟨#[]⟩ 0 false (n : Int)
  show bodyPost _ _ _ _ _ (putIt _ _ 0 ⟨#[]⟩ 0 false (n : Int))
  generalize putIt _ _ 0 ⟨#[]⟩ 0 false (n : Int) = W5 at hk hbl ⊢
  obtain ⟨e0, e1, e2, e3, e4, -⟩ := itC_cells hk
  clear hk
  exact bodyPost_ret (v := itA 0 ⟨#[]⟩ 0 false (n : Int)) (by simp [results, Tryz.results77, e0, e1, e2, e3, e4, go_sem]) rfl ⟨⟨0, ⟨#[]⟩, 0, false, n⟩, rfl, HO.out, hbl⟩

set_option maxHeartbeats 2000000 in
theorem read_word (k : Int) (s : ByteArray) (g : Nat) (w : World) (hc : w.cell? ⟨g, 0, none⟩ = some (.int .i64 k)) :
    Calls Tryz.prog 107 #[.string s, .pointer (some ⟨g, 0, none⟩)] w fun e w' => e = .returned (itA k s 0 false 0) ∧ Below w.heap.size w w' := by
  have hg := lt_of_cell_tab hc
  simp only at hg
  go_enter Tryz.func107, Tryz.ntmps107
  go_wp2_with fail
  have hk := Blk.new w 38 (itC k s 0 false 0)
  have hbl := (Below.refl w.heap.size w).alloc (Nat.le_refl _) (.cells (itC k s 0 false 0) 38)
  show bodyPost _ _ _ _ _ (w.alloc (.cells (itC k s 0 false 0) 38))
  generalize w.alloc (.cells (itC k s 0 false 0) 38) = W5 at hk hbl ⊢
  obtain ⟨e0, e1, e2, e3, e4, -⟩ := itC_cells hk
  clear hk
  exact bodyPost_ret (v := itA k s 0 false 0) (by simp [results, Tryz.results107, e0, e1, e2, e3, e4, go_sem]) rfl ⟨rfl, hbl⟩

theorem len_tail {s : ByteArray} {c : UInt8} {m : List UInt8} (hm : s.data.toList = c :: m) (hs : s.size ≤ 1048576) : (⟨m.toArray⟩ : ByteArray).size ≤ 1048576 := by
  have e : s.data.toList.length = m.length + 1 := by rw [hm]; rfl
  have e2 : s.data.toList.length = s.size := by simp
  show m.toArray.size ≤ _
  rw [List.size_toArray]
  omega
theorem cut36 {s : ByteArray} {c : UInt8} {m : List UInt8} (hm : s.data.toList = c :: m) (W : World) : Calls Tryz.prog 105 #[.string s, .string ⟨#[c]⟩] W fun e w' => e = .returned (.tuple #[.string ⟨m.toArray⟩, .bool true]) ∧ W = w' := by
  refine (Tryz.strings_CutPrefix s ⟨#[c]⟩ W).mono ?_
  rintro e w' ⟨rfl, rfl⟩
  refine ⟨?_, rfl⟩
  show Ending.returned (.tuple #[.string ⟨(Lib.trimPrefix s.data.toList [c]).toArray⟩, .bool (Lib.hasPrefix s.data.toList [c])]) = _
  rcases prefix_one s.data.toList c with ⟨m', e1, e2, e3⟩ | ⟨e1, _⟩
  · rw [hm] at e1 e2 e3 ⊢
    injection e1 with _ e1
    rw [e2, e3, e1]
  · exact absurd hm (e1 m)
theorem nocut {s : ByteArray} {c : UInt8} (h : ∀ m, s.data.toList ≠ c :: m) (W : World) : Calls Tryz.prog 105 #[.string s, .string ⟨#[c]⟩] W fun e w' => (∃ t : ByteArray, e = .returned (.tuple #[.string t, .bool false])) ∧ W = w' := by
  refine (Tryz.strings_CutPrefix s ⟨#[c]⟩ W).mono ?_
  rintro e w' ⟨rfl, rfl⟩
  refine ⟨⟨⟨(Lib.trimPrefix s.data.toList [c]).toArray⟩, ?_⟩, rfl⟩
  rcases prefix_one s.data.toList c with ⟨m', e1, e2, e3⟩ | ⟨_, e2⟩
  · exact absurd e1 (h m')
  · show Ending.returned (.tuple #[_, .bool (Lib.hasPrefix s.data.toList [c])]) = _
    rw [e2]

set_option maxRecDepth 100000 in
set_option maxHeartbeats 2000000 in
theorem read_num_hex (a k : Int) (hw : Shared a k) (s : ByteArray) (hs : s.size ≤ 1048576) (m : List UInt8) (hm : s.data.toList = 36 :: m) (g1 g2 g3 : Nat) (w : World) (hi : ReadIn w)
    (h1c : w.cell? ⟨g1, 0, none⟩ = some (.int .i64 k)) (h2c : w.cell? ⟨g2, 0, none⟩ = some (.func (.func 107) #[] #[.pointer (some ⟨g3, 0, none⟩)])) (_h3 : w.cell? ⟨g3, 0, none⟩ = some (.int .i64 a)) :
    Calls Tryz.prog 104 #[.string s, .pointer (some ⟨g1, 0, none⟩), .pointer (some ⟨g2, 0, none⟩)] w (ReadEnd (markOf a) s.data.toList w) := by
  have hg1 := lt_of_cell_tab h1c
  have hg2 := lt_of_cell_tab h2c
  simp only at hg1 hg2
  have HP : Hid (∀ W, Calls Tryz.prog 105 #[.string s, .string ⟨#[36]⟩] W fun e w' => e = .returned (.tuple #[.string ⟨m.toArray⟩, .bool true]) ∧ W = w') := Lib.hid fun W => cut36 hm W
  have HC := Lib.hid (fun o => impl_readhex ⟨m.toArray⟩ (len_tail hm hs) (w.alloc o) (hi.alloc o).errs (hi.alloc o).text.deb)
  have HW := Lib.hid hw
  have HI := Lib.hid (And.intro h1c h2c)
  have HM := Lib.hid hm
  clear hi hs hw h1c h2c _h3 hm
  go_enter Tryz.func104, Tryz.ntmps104
  go_wp2_with fail
  refine (HP.out _).mono ?_
  rintro e w1 ⟨rfl, rfl⟩
  go_wp2_with fail
  refine (HC.out _).mono ?_
  rintro e w1 ⟨n, b, rfl, hr, hb1⟩
  have hn : n < 4294967296 := by rcases hr with ⟨_, h, _⟩ | ⟨_, h, _⟩ <;> omega
  have hz := sgn_wrap hn
  have hm := HM.out
  have hw := HW.out
  have HO := Lib.hid (hm ▸ only_hex hw (show ReadsHex m n b by simpa using hr) hn)
  have hx1 := box_mono (box_start w _) (hb1.mono (by simp))
  have hk1 : w1.cell? ⟨g1, 0, none⟩ = some (.int .i64 k) := ((box_below hx1).cell (p := ⟨g1, 0, none⟩) hg1).trans HI.out.1
  have hg1' : g1 < w1.heap.size := lt_of_cell_tab hk1
  have k1 : Blk w1 w.heap.size 38 (itC 0 ⟨#[]⟩ 0 false 0) := res_blk hx1
  have HB := Lib.hid (box_below hx1)
  obtain ⟨d0, d1, d2, d3, d4, f0, f1, f2, f3, f4⟩ := itC_cells k1
  have K1 := Lib.hid k1
  clear hb1 hx1 k1 hr hm hw hn
  go_wp2_with fail
  have hk := putIt_blk K1.out k ⟨#[]⟩ (sgn n) true 0
  have hbl := putIt_below (g := w.heap.size) HB.out (Nat.le_refl _) k ⟨#[]⟩ (sgn n) true 0
  show bodyPost _ _ _ _ _ (putIt _ _ k ⟨#[]⟩ (sgn n) true 0)
  generalize putIt _ _ k ⟨#[]⟩ (sgn n) true 0 = W5 at hk hbl ⊢
  obtain ⟨e0, e1, e2, e3, e4, -⟩ := itC_cells hk
  clear hk
  exact bodyPost_ret (v := itA k ⟨#[]⟩ (sgn n) true 0) (by simp [results, Tryz.results104, e0, e1, e2, e3, e4, go_sem]) rfl ⟨⟨k, ⟨#[]⟩, (sgn n), true, 0⟩, rfl, HO.out, hbl⟩

set_option maxRecDepth 100000 in
set_option maxHeartbeats 2000000 in
theorem read_num_dec (a k : Int) (hw : Shared a k) (s : ByteArray) (hs : s.size ≤ 1048576) (m : List UInt8) (hm : s.data.toList = 35 :: m) (g1 g2 g3 : Nat) (w : World) (hi : ReadIn w)
    (h1c : w.cell? ⟨g1, 0, none⟩ = some (.int .i64 k)) (h2c : w.cell? ⟨g2, 0, none⟩ = some (.func (.func 107) #[] #[.pointer (some ⟨g3, 0, none⟩)])) (_h3 : w.cell? ⟨g3, 0, none⟩ = some (.int .i64 a)) :
    Calls Tryz.prog 104 #[.string s, .pointer (some ⟨g1, 0, none⟩), .pointer (some ⟨g2, 0, none⟩)] w (ReadEnd (markOf a) s.data.toList w) := by
  have hg1 := lt_of_cell_tab h1c
  have hg2 := lt_of_cell_tab h2c
  simp only at hg1 hg2
  have HP : Hid (∀ W, Calls Tryz.prog 105 #[.string s, .string ⟨#[36]⟩] W fun e w' => (∃ t : ByteArray, e = .returned (.tuple #[.string t, .bool false])) ∧ W = w') := Lib.hid fun W => nocut (fun m h => by rw [hm] at h; cases h) W
  have HQ : Hid (∀ W, Calls Tryz.prog 105 #[.string s, .string ⟨#[35]⟩] W fun e w' => e = .returned (.tuple #[.string ⟨m.toArray⟩, .bool true]) ∧ W = w') := Lib.hid fun W => cut36 hm W
  have HC := Lib.hid (fun o => impl_readdec ⟨m.toArray⟩ (len_tail hm hs) (w.alloc o) (hi.alloc o).errs.1.1 (hi.alloc o).errs.1.2 (hi.alloc o).text.pow)
  have HW := Lib.hid hw
  have HI := Lib.hid (And.intro h1c h2c)
  have HM := Lib.hid hm
  clear hi hs hw h1c h2c _h3 hm
  go_enter Tryz.func104, Tryz.ntmps104
  go_wp2_with fail
  refine (HP.out _).mono ?_
  rintro e w1 ⟨⟨t, rfl⟩, rfl⟩
  go_wp2_with fail
  refine (HQ.out _).mono ?_
  rintro e w1 ⟨rfl, rfl⟩
  go_wp2_with fail
  refine (HC.out _).mono ?_
  rintro e w1 ⟨n, b, rfl, hr, hb1⟩
  have hm := HM.out
  have hw := HW.out
  have HO := Lib.hid (hm ▸ only_dec hw (show ReadsDec m n b by simpa using hr))
  have hx1 := box_mono (box_start w _) (hb1.mono (by simp))
  have hk1 : w1.cell? ⟨g1, 0, none⟩ = some (.int .i64 k) := ((box_below hx1).cell (p := ⟨g1, 0, none⟩) hg1).trans HI.out.1
  have hg1' : g1 < w1.heap.size := lt_of_cell_tab hk1
  have k1 : Blk w1 w.heap.size 38 (itC 0 ⟨#[]⟩ 0 false 0) := res_blk hx1
  have HB := Lib.hid (box_below hx1)
  obtain ⟨d0, d1, d2, d3, d4, f0, f1, f2, f3, f4⟩ := itC_cells k1
  have K1 := Lib.hid k1
  clear hb1 hx1 k1 hr hm hw 
  go_wp2_with fail
  have hk := putIt_blk K1.out k ⟨#[]⟩ (wrap32 n) false 0
  have hbl := putIt_below (g := w.heap.size) HB.out (Nat.le_refl _) k ⟨#[]⟩ (wrap32 n) false 0
  show bodyPost _ _ _ _ _ (putIt _ _ k ⟨#[]⟩ (wrap32 n) false 0)
  generalize putIt _ _ k ⟨#[]⟩ (wrap32 n) false 0 = W5 at hk hbl ⊢
  obtain ⟨e0, e1, e2, e3, e4, -⟩ := itC_cells hk
  clear hk
  exact bodyPost_ret (v := itA k ⟨#[]⟩ (wrap32 n) false 0) (by simp [results, Tryz.results104, e0, e1, e2, e3, e4, go_sem]) rfl ⟨⟨k, ⟨#[]⟩, (wrap32 n), false, 0⟩, rfl, HO.out, hbl⟩

set_option maxRecDepth 100000 in
set_option maxHeartbeats 2000000 in
theorem read_num_word (a k : Int) (hw : Shared a k) (s : ByteArray) (hs : s.size ≤ 1048576) (h1 : ∀ m, s.data.toList ≠ 36 :: m) (h2 : ∀ m, s.data.toList ≠ 35 :: m) (g1 g2 g3 : Nat) (w : World)
    (h1c : w.cell? ⟨g1, 0, none⟩ = some (.int .i64 k)) (h2c : w.cell? ⟨g2, 0, none⟩ = some (.func (.func 107) #[] #[.pointer (some ⟨g3, 0, none⟩)])) (h3 : w.cell? ⟨g3, 0, none⟩ = some (.int .i64 a)) :
    Calls Tryz.prog 104 #[.string s, .pointer (some ⟨g1, 0, none⟩), .pointer (some ⟨g2, 0, none⟩)] w (ReadEnd (markOf a) s.data.toList w) := by
  have hg1 := lt_of_cell_tab h1c
  have hg2 := lt_of_cell_tab h2c
  simp only at hg1 hg2
  have HP : Hid (∀ W, Calls Tryz.prog 105 #[.string s, .string ⟨#[36]⟩] W fun e w' => (∃ t : ByteArray, e = .returned (.tuple #[.string t, .bool false])) ∧ W = w') := Lib.hid fun W => nocut h1 W
  have HQ : Hid (∀ W, Calls Tryz.prog 105 #[.string s, .string ⟨#[35]⟩] W fun e w' => (∃ t : ByteArray, e = .returned (.tuple #[.string t, .bool false])) ∧ W = w') := Lib.hid fun W => nocut h2 W
  have HC := Lib.hid (fun W (hb : Below w.heap.size w W) => read_word a s g3 W (by rw [hb.cell (p := ⟨g3, 0, none⟩) (lt_of_cell_tab h3)]; exact h3))
  have HW := Lib.hid hw
  have HI := Lib.hid (And.intro h1c h2c)
  have HM := Lib.hid (And.intro h1 h2)
  have HSZ : Hid (s.size ≤ 4611686018427387904) := Lib.hid (by omega)
  clear hs hw h1c h2c h3 h1 h2
  go_enter Tryz.func104, Tryz.ntmps104
  go_wp2_with fail
  refine (HP.out _).mono ?_
  rintro e w1 ⟨⟨t, rfl⟩, rfl⟩
  go_wp2_with fail
  refine (HQ.out _).mono ?_
  rintro e w1 ⟨⟨t2, rfl⟩, rfl⟩
  have hk2 : (w.alloc (.cells (itC 0 ⟨#[]⟩ 0 false 0) 38)).cell? ⟨g2, 0, none⟩ = _ := (((Below.refl w.heap.size w).alloc (Nat.le_refl _) (.cells (itC 0 ⟨#[]⟩ 0 false 0) 38)).cell (p := ⟨g2, 0, none⟩) hg2).trans HI.out.2
  unfold itC at hk2
  go_wp2_with fail
  refine (HC.out _ ((Below.refl w.heap.size w).alloc (Nat.le_refl _) _)).mono ?_
  rintro e w1 ⟨rfl, hb1⟩
  have HO : Hid (OnlyItem (markOf a) s.data.toList ⟨a, s, 0, false, 0⟩) := Lib.hid (only_plain HW.out HSZ.out rfl HM.out.1 HM.out.2)
  have hx1 := box_mono (box_start w _) (hb1.mono (by simp))
  have k1 : Blk w1 w.heap.size 38 (itC 0 ⟨#[]⟩ 0 false 0) := res_blk hx1
  have HB := Lib.hid (box_below hx1)
  obtain ⟨d0, d1, d2, d3, d4, f0, f1, f2, f3, f4⟩ := itC_cells k1
  have K1 := Lib.hid k1
  clear hb1 hx1 k1
  go_wp2_with fail
  have hk := putIt_blk K1.out a s 0 false 0
  have hbl := putIt_below (g := w.heap.size) HB.out (Nat.le_refl _) a s 0 false 0
  show bodyPost _ _ _ _ _ (putIt _ _ a s 0 false 0)
  generalize putIt _ _ a s 0 false 0 = W5 at hk hbl ⊢
  obtain ⟨e0, e1, e2, e3, e4, -⟩ := itC_cells hk
  clear hk
  exact bodyPost_ret (v := itA a s 0 false 0) (by simp [results, Tryz.results104, e0, e1, e2, e3, e4, go_sem]) rfl ⟨⟨a, s, 0, false, 0⟩, rfl, HO.out, hbl⟩

set_option maxRecDepth 100000 in
set_option maxHeartbeats 2000000 in
theorem read_var_yes (s : ByteArray) (hs : s.size ≤ 1048576) (a m : List UInt8) (hl : s.data.toList = a ++ 35 :: m) (hn : (35 : UInt8) ∉ a) (hc : Lib.cut s.data.toList [35] = (a, m, true)) (w : World) (hi : ReadIn w) : Calls Tryz.prog 80 #[.string s] w (ReadEnd 38 s.data.toList w) := by
  have e2 : s.data.toList.length = s.size := by simp
  have e : s.data.toList.length = a.length + (m.length + 1) := by rw [hl]; simp
  have z1 : (⟨(a).toArray⟩ : ByteArray).size ≤ 1048576 := by show (a).toArray.size ≤ _; rw [List.size_toArray]; omega
  have z2 : (⟨(m).toArray⟩ : ByteArray).size ≤ 1048576 := by show (m).toArray.size ≤ _; rw [List.size_toArray]; omega
  have HSZ : Hid ((⟨(a).toArray⟩ : ByteArray).size ≤ 4611686018427387904) := Lib.hid (Nat.le_trans z1 (by decide))
  have HK : Hid (∀ W, ReadIn W → Calls Tryz.prog 108 #[.string s, .string ⟨#[35]⟩] W fun e w' => e = .returned (.tuple #[.string ⟨(a).toArray⟩, .string ⟨(m).toArray⟩, .bool true]) ∧ Below W.heap.size W w') := Lib.hid fun W hW => by
    obtain ⟨x, hx⟩ := hW.max
    refine (Tryz.strings_Cut s ⟨#[35]⟩ x W (by omega) hx).mono ?_
    rintro e w' ⟨rfl, q, rfl⟩
    refine ⟨?_, below_drewN (Below.refl _ _) q⟩
    show Ending.returned (.tuple #[.string ⟨(Lib.cut s.data.toList [35]).1.toArray⟩, .string ⟨(Lib.cut s.data.toList [35]).2.1.toArray⟩, .bool (Lib.cut s.data.toList [35]).2.2]) = _
    rw [hc]
  have HA := Lib.hid (fun o => hi.alloc o)
  have HD := Lib.hid (fun W (hW : ReadIn W) => impl_readdec ⟨(m).toArray⟩ z2 W hW.errs.1.1 hW.errs.1.2 hW.text.pow)
  have HN := Lib.hid hn
  have HL := Lib.hid hl
  clear hi hs hc e2 e z1 z2 hn hl
  go_enter Tryz.func80, Tryz.ntmps80
  go_wp2_with fail
  refine (HK.out _ (HA.out _)).mono ?_
  rintro e w1 ⟨rfl, hb1⟩
  have HI1 := Lib.hid ((HA.out _).below hb1)
  have HX := Lib.hid (box_mono (box_start w _) (hb1.mono (by simp)))
  clear hb1
  go_wp2_with fail
  refine (HD.out _ HI1.out).mono ?_
  rintro e w2 ⟨n, b, rfl, hr, hb2⟩
  have hn := HN.out
  have hl := HL.out
  have HO : Hid (OnlyItem 38 s.data.toList ⟨9, ⟨(a).toArray⟩, wrap32 n, false, 0⟩) := Lib.hid (hl ▸ only_var HSZ.out rfl hn (show ReadsDec m n b by simpa using hr))
  have hx1 := box_mono HX.out hb2
  have k1 : Blk w2 w.heap.size 38 (itC 0 ⟨#[]⟩ 0 false 0) := res_blk hx1
  have HB := Lib.hid (box_below hx1)
  obtain ⟨d0, d1, d2, d3, d4, f0, f1, f2, f3, f4⟩ := itC_cells k1
  have K1 := Lib.hid k1
  clear hb2 hx1 k1 hr hn hl
  go_wp2_with fail
  have hk := putIt_blk K1.out 9 ⟨(a).toArray⟩ (wrap32 n) false 0
  have hbl := putIt_below (g := w.heap.size) HB.out (Nat.le_refl _) 9 ⟨(a).toArray⟩ (wrap32 n) false 0
  show bodyPost _ _ _ _ _ (putIt _ _ 9 ⟨(a).toArray⟩ (wrap32 n) false 0)
  generalize putIt _ _ 9 ⟨(a).toArray⟩ (wrap32 n) false 0 = W5 at hk hbl ⊢
  obtain ⟨e0, e1, e2, e3, e4, -⟩ := itC_cells hk
  clear hk
  exact bodyPost_ret (v := itA 9 ⟨(a).toArray⟩ (wrap32 n) false 0) (by simp [results, Tryz.results80, e0, e1, e2, e3, e4, go_sem]) rfl ⟨⟨9, ⟨(a).toArray⟩, (wrap32 n), false, 0⟩, rfl, HO.out, hbl⟩

set_option maxRecDepth 100000 in
set_option maxHeartbeats 2000000 in
theorem read_var_no (s : ByteArray) (hs : s.size ≤ 1048576) (hn : (35 : UInt8) ∉ s.data.toList) (hc : Lib.cut s.data.toList [35] = (s.data.toList, [], false)) (w : World) (hi : ReadIn w) : Calls Tryz.prog 80 #[.string s] w (ReadEnd 38 s.data.toList w) := by
  have e2 : s.data.toList.length = s.size := by simp
  have e : s.data.toList.length = s.data.toList.length := rfl
  have z1 : (⟨(s.data.toList).toArray⟩ : ByteArray).size ≤ 1048576 := by show (s.data.toList).toArray.size ≤ _; rw [List.size_toArray]; omega
  have z2 : (⟨([]).toArray⟩ : ByteArray).size ≤ 1048576 := by show ([]).toArray.size ≤ _; rw [List.size_toArray]; decide
  have HSZ : Hid ((⟨(s.data.toList).toArray⟩ : ByteArray).size ≤ 4611686018427387904) := Lib.hid (Nat.le_trans z1 (by decide))
  have HK : Hid (∀ W, ReadIn W → Calls Tryz.prog 108 #[.string s, .string ⟨#[35]⟩] W fun e w' => e = .returned (.tuple #[.string ⟨(s.data.toList).toArray⟩, .string ⟨([]).toArray⟩, .bool false]) ∧ Below W.heap.size W w') := Lib.hid fun W hW => by
    obtain ⟨x, hx⟩ := hW.max
    refine (Tryz.strings_Cut s ⟨#[35]⟩ x W (by omega) hx).mono ?_
    rintro e w' ⟨rfl, q, rfl⟩
    refine ⟨?_, below_drewN (Below.refl _ _) q⟩
    show Ending.returned (.tuple #[.string ⟨(Lib.cut s.data.toList [35]).1.toArray⟩, .string ⟨(Lib.cut s.data.toList [35]).2.1.toArray⟩, .bool (Lib.cut s.data.toList [35]).2.2]) = _
    rw [hc]
  have HA := Lib.hid (fun o => hi.alloc o)
  have HD := Lib.hid (fun W (hW : ReadIn W) => impl_readdec ⟨([]).toArray⟩ z2 W hW.errs.1.1 hW.errs.1.2 hW.text.pow)
  have HN := Lib.hid hn
  
  clear hi hs hc e2 e z1 z2 hn 
  go_enter Tryz.func80, Tryz.ntmps80
  go_wp2_with fail
  refine (HK.out _ (HA.out _)).mono ?_
  rintro e w1 ⟨rfl, hb1⟩
  have HI1 := Lib.hid ((HA.out _).below hb1)
  have HX := Lib.hid (box_mono (box_start w _) (hb1.mono (by simp)))
  clear hb1
  go_wp2_with fail
  refine (HD.out _ HI1.out).mono ?_
  rintro e w2 ⟨n, b, rfl, hr, hb2⟩
  have hn := HN.out
  
  have HO : Hid (OnlyItem 38 s.data.toList ⟨9, ⟨(s.data.toList).toArray⟩, wrap32 n, false, 0⟩) := Lib.hid (only_var_no hn (only_in (by omega) (wrap_in n).1 (wrap_in n).2 (by omega) HSZ.out))
  have hx1 := box_mono HX.out hb2
  have k1 : Blk w2 w.heap.size 38 (itC 0 ⟨#[]⟩ 0 false 0) := res_blk hx1
  have HB := Lib.hid (box_below hx1)
  obtain ⟨d0, d1, d2, d3, d4, f0, f1, f2, f3, f4⟩ := itC_cells k1
  have K1 := Lib.hid k1
  clear hb2 hx1 k1 hr hn 
  go_wp2_with fail
  have hk := putIt_blk K1.out 9 ⟨(s.data.toList).toArray⟩ (wrap32 n) false 0
  have hbl := putIt_below (g := w.heap.size) HB.out (Nat.le_refl _) 9 ⟨(s.data.toList).toArray⟩ (wrap32 n) false 0
  show bodyPost _ _ _ _ _ (putIt _ _ 9 ⟨(s.data.toList).toArray⟩ (wrap32 n) false 0)
  generalize putIt _ _ 9 ⟨(s.data.toList).toArray⟩ (wrap32 n) false 0 = W5 at hk hbl ⊢
  obtain ⟨e0, e1, e2, e3, e4, -⟩ := itC_cells hk
  clear hk
  exact bodyPost_ret (v := itA 9 ⟨(s.data.toList).toArray⟩ (wrap32 n) false 0) (by simp [results, Tryz.results80, e0, e1, e2, e3, e4, go_sem]) rfl ⟨⟨9, ⟨(s.data.toList).toArray⟩, (wrap32 n), false, 0⟩, rfl, HO.out, hbl⟩

theorem read_var (s : ByteArray) (hs : s.size ≤ 1048576) (w : World) (hi : ReadIn w) : Calls Tryz.prog 80 #[.string s] w (ReadEnd 38 s.data.toList w) := by
  rcases cut_one s.data.toList 35 with ⟨a, m, h1, h2, h3⟩ | ⟨h1, h2⟩
  · exact read_var_yes s hs a m h1 h2 h3 w hi
  · exact read_var_no s hs h1 h2 w hi
theorem read_num (a k : Int) (hw : Shared a k) (s : ByteArray) (hs : s.size ≤ 1048576) (g1 g2 g3 : Nat) (w : World) (hi : ReadIn w)
    (h1c : w.cell? ⟨g1, 0, none⟩ = some (.int .i64 k)) (h2c : w.cell? ⟨g2, 0, none⟩ = some (.func (.func 107) #[] #[.pointer (some ⟨g3, 0, none⟩)])) (h3 : w.cell? ⟨g3, 0, none⟩ = some (.int .i64 a)) :
    Calls Tryz.prog 104 #[.string s, .pointer (some ⟨g1, 0, none⟩), .pointer (some ⟨g2, 0, none⟩)] w (ReadEnd (markOf a) s.data.toList w) := by
  rcases prefix_one s.data.toList 36 with ⟨m, h, _⟩ | ⟨h, _⟩
  · exact read_num_hex a k hw s hs m h g1 g2 g3 w hi h1c h2c h3
  rcases prefix_one s.data.toList 35 with ⟨m, h4, _⟩ | ⟨h4, _⟩
  · exact read_num_dec a k hw s hs m h4 g1 g2 g3 w hi h1c h2c h3
  · exact read_num_word a k hw s hs h h4 g1 g2 g3 w h1c h2c h3

theorem wordreader_any (k : Int) (w : World) : Calls Tryz.prog 79 #[.int .i64 k] w fun e w' => (∃ g : Nat, e = .returned (.func (.func 107) #[] #[.pointer (some ⟨g, 0, none⟩)]) ∧ w'.cell? ⟨g, 0, none⟩ = some (.int .i64 k)) ∧ Below w.heap.size w w' := by
  have hmf : ∀ (fn : Fn) (first cap : Array Value) (w : World), (Instr.makeFunc fn first cap).run Tryz.prog w = .ok (.func fn first cap) w := fun _ _ _ _ => rfl
  go_enter Tryz.func79, Tryz.ntmps79
  go_wp2_with fail
  go_ret
  exact ⟨⟨w.heap.size, rfl, (Blk.new w _ #[.int .i64 k]).cell 0⟩, (Below.refl _ _).alloc (Nat.le_refl _) _⟩
theorem numreader_any (k : Int) (fv : Value) (hfv : ∃ f c, fv = .func (.func f) #[] c) (w : World) : Calls Tryz.prog 78 #[.int .i64 k, fv] w fun e w' => (∃ g1 g2 : Nat, e = .returned (.func (.func 104) #[] #[.pointer (some ⟨g1, 0, none⟩), .pointer (some ⟨g2, 0, none⟩)]) ∧ w'.cell? ⟨g1, 0, none⟩ = some (.int .i64 k) ∧ w'.cell? ⟨g2, 0, none⟩ = some fv) ∧ Below w.heap.size w w' := by
  obtain ⟨f, c, rfl⟩ := hfv
  have hmf : ∀ (fn : Fn) (first cap : Array Value) (w : World), (Instr.makeFunc fn first cap).run Tryz.prog w = .ok (.func fn first cap) w := fun _ _ _ _ => rfl
  go_enter Tryz.func78, Tryz.ntmps78
  go_wp2_with fail
  go_ret
  obtain ⟨k1, k2, hB, _⟩ := two_boxes (w := w) (w1 := (w.alloc _).alloc _) (Below.refl _ _)
  exact ⟨⟨w.heap.size, w.heap.size + 1, by simp, k1.cell 0, k2.cell 0⟩, hB⟩
end Go.Proofs.YtogdbfjagnbllaaGreatDoor

namespace Go.Proofs.YtogdbfjagnbllaaGreatDoor
open Go.RowKit Go

/-- The reader of a mark. -/
inductive ReaderIs (c : UInt8) (w : World) : Value → Prop
  | raw : c = 37 → ReaderIs c w (.func (.func 77) #[] #[])
  | var : c = 38 → ReaderIs c w (.func (.func 80) #[] #[])
  | num (a k : Int) (g1 g2 g3 : Nat) : Shared a k → c = markOf a → w.cell? ⟨g1, 0, none⟩ = some (.int .i64 k) → w.cell? ⟨g2, 0, none⟩ = some (.func (.func 107) #[] #[.pointer (some ⟨g3, 0, none⟩)]) → w.cell? ⟨g3, 0, none⟩ = some (.int .i64 a) → ReaderIs c w (.func (.func 104) #[] #[.pointer (some ⟨g1, 0, none⟩), .pointer (some ⟨g2, 0, none⟩)])
  | word (k : Int) (g : Nat) : -1 ≤ k ∧ k ≤ 9 → ((k = 2 ∨ k = 4 ∨ k = 5 ∨ k = 6) ∧ c = markOf k ∨ (∀ j : Int, 0 ≤ j → j ≤ 9 → markOf j ≠ c)) → w.cell? ⟨g, 0, none⟩ = some (.int .i64 k) → ReaderIs c w (.func (.func 107) #[] #[.pointer (some ⟨g, 0, none⟩)])
def ReaderEnd (c : UInt8) (w : World) (e : Ending) (w' : World) : Prop := (∃ fv, e = .returned fv ∧ ReaderIs c w' fv) ∧ Below w.heap.size w w'
abbrev MarkAt (c : UInt8) (K : Int) : Prop := Hid (∀ W : World, Calls Tryz.prog 76 #[.string ⟨#[37, 126, 58, 61, 34, 94, 95, 126, 61, 38]⟩, .int .u8 (c.toNat : Int)] W fun e w' => e = .returned (.int .i64 K) ∧ W = w')
theorem markat {c : UInt8} {K : Int} (h : Lib.indexByte marksL c = K) : MarkAt c K := Lib.hid fun W => by
  refine (Tryz.strings_IndexByte _ (c.toNat : Int) W).mono ?_
  rintro e w' ⟨rfl, rfl⟩
  refine ⟨?_, rfl⟩
  show Ending.returned (.int .i64 (Lib.indexByte marksL (UInt8.ofNat (c.toNat : Int).toNat))) = _
  rw [show UInt8.ofNat (c.toNat : Int).toNat = c by simp, h]

theorem readerof_raw (c : UInt8) (hc : c = 37) (HM : MarkAt c 0) (w : World) : Calls Tryz.prog 50 #[.int .u8 (c.toNat : Int)] w (ReaderEnd c w) := by
  have HC := Lib.hid hc
  clear hc
  obtain ⟨z, hz⟩ : ∃ z : Int, (c.toNat : Int) = z := ⟨_, rfl⟩
  unfold MarkAt at HM
  rw [hz] at HM ⊢
  clear hz
  go_enter Tryz.func50, Tryz.ntmps50
  go_wp2_with fail
  refine (HM.out _).mono ?_
  rintro e w1 ⟨rfl, rfl⟩
  go_wp2_with fail
  go_ret
  exact ⟨⟨_, rfl, .raw HC.out⟩, Below.refl _ _⟩
theorem readerof_var (c : UInt8) (hc : c = 38) (HM : MarkAt c 9) (w : World) : Calls Tryz.prog 50 #[.int .u8 (c.toNat : Int)] w (ReaderEnd c w) := by
  have HC := Lib.hid hc
  clear hc
  obtain ⟨z, hz⟩ : ∃ z : Int, (c.toNat : Int) = z := ⟨_, rfl⟩
  unfold MarkAt at HM
  rw [hz] at HM ⊢
  clear hz
  go_enter Tryz.func50, Tryz.ntmps50
  go_wp2_with fail
  refine (HM.out _).mono ?_
  rintro e w1 ⟨rfl, rfl⟩
  go_wp2_with fail
  go_ret
  exact ⟨⟨_, rfl, .var HC.out⟩, Below.refl _ _⟩
theorem readerof_num1 (c : UInt8) (hc : c = markOf 1) (HM : MarkAt c 1) (w : World) : Calls Tryz.prog 50 #[.int .u8 (c.toNat : Int)] w (ReaderEnd c w) := by
  have HC := Lib.hid hc
  clear hc
  obtain ⟨z, hz⟩ : ∃ z : Int, (c.toNat : Int) = z := ⟨_, rfl⟩
  unfold MarkAt at HM
  rw [hz] at HM ⊢
  clear hz
  have H1 := Lib.hid (fun W => wordreader_any 1 W)
  have H2 := Lib.hid (fun (fv : Value) (hfv : ∃ f c, fv = .func (.func f) #[] c) W => numreader_any 7 fv hfv W)
  go_enter Tryz.func50, Tryz.ntmps50
  go_wp2_with fail
  refine (HM.out _).mono ?_
  rintro e w1 ⟨rfl, rfl⟩
  go_wp2_with fail
  refine (H1.out _).mono ?_
  rintro e w1 ⟨⟨g, rfl, hg⟩, hb1⟩
  go_wp2_with fail
  refine (H2.out _ ⟨_, _, rfl⟩ _).mono ?_
  rintro e w2 ⟨⟨g1, g2, rfl, h1, h2⟩, hb2⟩
  have hg2 := (hb2.cell (p := ⟨g, 0, none⟩) (lt_of_cell_tab hg)).trans hg
  have HB := Lib.hid (hb1.trans (hb2.mono hb1.size))
  have HR := Lib.hid (ReaderIs.num (c := c) 1 7 g1 g2 g (.inl ⟨rfl, rfl⟩) HC.out h1 h2 hg2)
  clear hb1 hb2 hg hg2 h1 h2
  go_wp2_with fail
  go_ret
  exact ⟨⟨_, rfl, HR.out⟩, HB.out⟩
theorem readerof_num3 (c : UInt8) (hc : c = markOf 3) (HM : MarkAt c 3) (w : World) : Calls Tryz.prog 50 #[.int .u8 (c.toNat : Int)] w (ReaderEnd c w) := by
  have HC := Lib.hid hc
  clear hc
  obtain ⟨z, hz⟩ : ∃ z : Int, (c.toNat : Int) = z := ⟨_, rfl⟩
  unfold MarkAt at HM
  rw [hz] at HM ⊢
  clear hz
  have H1 := Lib.hid (fun W => wordreader_any 3 W)
  have H2 := Lib.hid (fun (fv : Value) (hfv : ∃ f c, fv = .func (.func f) #[] c) W => numreader_any 8 fv hfv W)
  go_enter Tryz.func50, Tryz.ntmps50
  go_wp2_with fail
  refine (HM.out _).mono ?_
  rintro e w1 ⟨rfl, rfl⟩
  go_wp2_with fail
  refine (H1.out _).mono ?_
  rintro e w1 ⟨⟨g, rfl, hg⟩, hb1⟩
  go_wp2_with fail
  refine (H2.out _ ⟨_, _, rfl⟩ _).mono ?_
  rintro e w2 ⟨⟨g1, g2, rfl, h1, h2⟩, hb2⟩
  have hg2 := (hb2.cell (p := ⟨g, 0, none⟩) (lt_of_cell_tab hg)).trans hg
  have HB := Lib.hid (hb1.trans (hb2.mono hb1.size))
  have HR := Lib.hid (ReaderIs.num (c := c) 3 8 g1 g2 g (.inr ⟨rfl, rfl⟩) HC.out h1 h2 hg2)
  clear hb1 hb2 hg hg2 h1 h2
  go_wp2_with fail
  go_ret
  exact ⟨⟨_, rfl, HR.out⟩, HB.out⟩
theorem readerof_word (c : UInt8) (k : Int) (hk : -1 ≤ k ∧ k ≤ 9) (hn : k ≠ 0 ∧ k ≠ 1 ∧ k ≠ 3 ∧ k ≠ 9) (hc : (k = 2 ∨ k = 4 ∨ k = 5 ∨ k = 6) ∧ c = markOf k ∨ (∀ j : Int, 0 ≤ j → j ≤ 9 → markOf j ≠ c)) (HM : MarkAt c k) (w : World) : Calls Tryz.prog 50 #[.int .u8 (c.toNat : Int)] w (ReaderEnd c w) := by
  have HC := Lib.hid hc
  have HK := Lib.hid hk
  have e0 : (k == 0) = false := by simp; omega
  have e1 : (k == 1) = false := by simp; omega
  have e3 : (k == 3) = false := by simp; omega
  have e9 : (k == 9) = false := by simp; omega
  obtain ⟨z, hz⟩ : ∃ z : Int, (c.toNat : Int) = z := ⟨_, rfl⟩
  unfold MarkAt at HM
  rw [hz] at HM ⊢
  have H1 := Lib.hid (fun W => wordreader_any k W)
  clear hz hc hk hn
  go_enter Tryz.func50, Tryz.ntmps50
  go_wp2_with fail
  refine (HM.out _).mono ?_
  rintro e w1 ⟨rfl, rfl⟩
  go_wp2_with fail
  refine (H1.out _).mono ?_
  rintro e w1 ⟨⟨g, rfl, hg⟩, hb1⟩
  have HB := Lib.hid hb1
  have HR := Lib.hid (ReaderIs.word (c := c) k g HK.out HC.out hg)
  clear hb1 hg
  go_wp2_with fail
  go_ret
  exact ⟨⟨_, rfl, HR.out⟩, HB.out⟩
theorem mark_mem {k : Int} (h0 : 0 ≤ k) (h9 : k ≤ 9) : markOf k ∈ marksL := by
  rcases mark_is ⟨h0, h9⟩ with rfl | rfl | rfl | rfl | rfl | rfl | rfl | rfl | rfl | rfl <;> decide
/-- Which reader a mark has. -/
theorem readerof_any (c : UInt8) (w : World) : Calls Tryz.prog 50 #[.int .u8 (c.toNat : Int)] w (ReaderEnd c w) := by
  by_cases hm : c ∈ marksL
  · have h : c = 37 ∨ c = 126 ∨ c = 58 ∨ c = 61 ∨ c = 34 ∨ c = 94 ∨ c = 95 ∨ c = 38 := by
      unfold marksL at hm
      simp only [List.mem_cons, List.not_mem_nil, or_false] at hm
      rcases hm with h | h | h | h | h | h | h | h | h | h <;> simp [h]
    obtain ⟨m0, m1, m2, m3, m4, m5, m6, m9⟩ := mark_at
    rcases h with rfl | rfl | rfl | rfl | rfl | rfl | rfl | rfl
    · exact readerof_raw _ rfl (markat m0) w
    · exact readerof_num1 _ rfl (markat m1) w
    · exact readerof_word _ 2 (by decide) (by decide) (.inl ⟨by decide, rfl⟩) (markat m2) w
    · exact readerof_num3 _ rfl (markat m3) w
    · exact readerof_word _ 4 (by decide) (by decide) (.inl ⟨by decide, rfl⟩) (markat m4) w
    · exact readerof_word _ 5 (by decide) (by decide) (.inl ⟨by decide, rfl⟩) (markat m5) w
    · exact readerof_word _ 6 (by decide) (by decide) (.inl ⟨by decide, rfl⟩) (markat m6) w
    · exact readerof_var _ rfl (markat m9) w
  · exact readerof_word c (-1) (by decide) (by decide) (.inr fun j h0 h9 e => hm (e ▸ mark_mem h0 h9)) (markat (mark_none hm)) w
end Go.Proofs.YtogdbfjagnbllaaGreatDoor
