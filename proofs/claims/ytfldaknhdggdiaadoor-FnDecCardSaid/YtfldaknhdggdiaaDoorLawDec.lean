/-
  laws.FnDec answers true at every draw: a number comes back from its text where it is one of -9999999999 .. 9999999999, 32 bits from theirs in base 16.
-/
import Derived.Test.YtfldaknhdggdiaaDoorDrawDec
import Derived.Test.YtfldaknhdggdiaaDoorReadImpl
import Derived.Test.YtfldaknhdggdiaaDoorLawReadHex
import Derived.Test.YtfldaknhdggdiaaDoorLawReadDec
namespace Go.Proofs.YtfldaknhdggdiaaDoor
open Go.RowKit

theorem big_any (A : Option Addr) (len cap : Nat) (w : World) : Calls Tryd.prog 8 #[.slice A len cap] w fun e w' => e = .returned (.bool (decide (1048576 < (len : Int)))) ∧ w = w' := by
  go_enter Tryd.func8, Tryd.ntmps8
  go_wp2
  go_ret
  exact ⟨rfl, rfl⟩

theorem reads_itoa {n m : Int} {b : Bool} (h : ReadsDec (Lib.itoa n) m b) : b = decide (-9999999999 ≤ n ∧ n ≤ 9999999999) ∧ (b = true → n = m) := by
  by_cases hr : -9999999999 ≤ n ∧ n ≤ 9999999999
  · obtain ⟨rfl, rfl⟩ := h.unique (.inl ⟨rfl, hr.1, hr.2, rfl⟩)
    exact ⟨by simp [hr], fun _ => rfl⟩
  · obtain ⟨rfl, rfl⟩ := h.unique (.inr ⟨rfl, rfl, fun m h0 h1 e => hr (by rw [itoa_inj e]; exact ⟨h0, h1⟩)⟩)
    exact ⟨by simp [hr], fun h => by cases h⟩
theorem reads_hex {n m : Nat} {b : Bool} (hn : n < 4294967296) (h : ReadsHex (hexDigits n) m b) : m = n ∧ b = true := h.unique (.inl ⟨rfl, hn, rfl⟩)

/-- What the law asks of the world. -/
structure Env (w : World) : Prop where
  pow : Lib.TabIs Tryd.prog w "internal/strconv.uint64pow10" .u64 Lib.pow10Tab
  deb : Deb w
  errs : Errs w
theorem Env.below {w w' : World} (h : Env w) (hb : Below w.heap.size w w') : Env w' := ⟨tab_below h.pow hb, h.deb.below hb, h.errs.below hb⟩

set_option maxRecDepth 100000 in
set_option maxHeartbeats 2000000 in
theorem law_fndec (A : Option Addr) (len cap : Nat) (w : World) (hcode : CodeOk w w.heap.size A len) (hE : Env w) :
    Calls Tryd.prog 3 #[.slice A len cap] w fun e w' => e = .returned (.bool true) ∧ Below w.heap.size w w' := by
  have HE := Lib.hid hE
  have HC := Lib.hid hcode
  clear hE hcode
  by_cases hbig : (1048576 : Int) < (len : Int)
  · have hb1 : decide ((1048576 : Int) < (len : Int)) = true := by simpa using hbig
    go_enter Tryd.func3, Tryd.ntmps3
    go_wp2_with (go_at_call 8; refine (big_any _ _ _ _).mono ?_; rintro e w' ⟨rfl, rfl⟩)
    go_ret
    exact ⟨rfl, Below.refl _ _⟩
  · have hb1 : decide ((1048576 : Int) < (len : Int)) = false := by simpa using hbig
    clear hbig
    go_enter Tryd.func3, Tryd.ntmps3
    go_wp2_with (go_at_call 8; refine (big_any _ _ _ _).mono ?_; rintro e w' ⟨rfl, rfl⟩)
    refine (drawdec_any A len cap w HC.out).mono ?_
    rintro e w1 ⟨n, rfl, ⟨hn0, hn1⟩, hbw1⟩
    have H1 := Lib.hid (HE.out.below hbw1)
    go_wp2_with fail
    refine (impl_dectext n hn0 hn1 w1 H1.out.pow).mono ?_
    rintro e w2 ⟨rfl, hbw2'⟩
    have hbw2 := hbw1.trans (hbw2'.mono hbw1.size)
    clear hbw2' hbw1 H1
    have H2 := Lib.hid (HE.out.below hbw2)
    have hsz : (⟨(Lib.itoa n).toArray⟩ : ByteArray).size ≤ 1048576 := by
      have := Lib.itoa_length_le n hn0 hn1
      show (Lib.itoa n).toArray.size ≤ _
      simp; omega
    have HR := Lib.hid (impl_readdec ⟨(Lib.itoa n).toArray⟩ hsz w2 H2.out.errs.1.1 H2.out.errs.1.2 H2.out.pow)
    clear hsz
    go_wp2_with fail
    refine HR.out.mono ?_
    rintro e w3 ⟨m, b, rfl, hr, hbw3'⟩
    obtain ⟨hb, hm⟩ := reads_itoa hr
    have hbw3 := hbw2.trans (hbw3'.mono hbw2.size)
    clear hbw3' hbw2 H2 HR hr
    have HB := Lib.hid hb
    have HM := Lib.hid hm
    have H3 := Lib.hid (HE.out.below hbw3)
    clear hb hm
    go_wp2_with fail
    refine (drawhex_any A len cap w3 (by have := HC.out.below hbw3; exact this.more hbw3.size)).mono ?_
    rintro e w4 ⟨x, rfl, hx, hbw4'⟩
    have hbw4 := hbw3.trans (hbw4'.mono hbw3.size)
    clear hbw4' hbw3 H3
    have H4 := Lib.hid (HE.out.below hbw4)
    go_wp2_with fail
    refine (impl_hextext x hx w4 H4.out.deb).mono ?_
    rintro e w5 ⟨rfl, hbw5'⟩
    have hbw5 := hbw4.trans (hbw5'.mono hbw4.size)
    clear hbw5' hbw4 H4
    have H5 := Lib.hid (HE.out.below hbw5)
    have hsz : (⟨(hexDigits x).toArray⟩ : ByteArray).size ≤ 1048576 := by
      have := hex_len8 hx
      show (hexDigits x).toArray.size ≤ _
      simp; omega
    have HR := Lib.hid (impl_readhex ⟨(hexDigits x).toArray⟩ hsz w5 H5.out.errs H5.out.deb)
    clear hsz
    go_wp2_with fail
    refine HR.out.mono ?_
    rintro e w6 ⟨y, fine, rfl, hr, hbw6'⟩
    obtain ⟨rfl, rfl⟩ := reads_hex hx hr
    have hbw6 := hbw5.trans (hbw6'.mono hbw5.size)
    clear hbw6' hbw5 H5 HR hr
    have HS := Lib.hid (spec_dectext n hn0 hn1 w6)
    clear hx
    by_cases hr : -9999999999 ≤ n ∧ n ≤ 9999999999
    · obtain rfl : b = true := by rw [HB.out]; simpa using hr
      obtain rfl : n = m := HM.out rfl
      obtain ⟨r0, r1⟩ := hr
      clear HB HM
      go_wp2_with fail
      refine HS.out.mono ?_
      rintro e w7 ⟨rfl, rfl⟩
      go_wp2_with fail
      go_ret
      exact ⟨rfl, hbw6⟩
    · obtain rfl : b = false := by rw [HB.out]; simpa using hr
      rcases (show n < -9999999999 ∨ 9999999999 < n by omega) with h | h
      · clear hr HB HM
        go_wp2_with fail
        refine HS.out.mono ?_
        rintro e w7 ⟨rfl, rfl⟩
        go_wp2_with fail
        go_ret
        exact ⟨rfl, hbw6⟩
      · have hq : decide (n ≤ 9999999999) = false := decide_eq_false (by omega)
        clear hr HB HM
        go_wp2_with fail
        refine HS.out.mono ?_
        rintro e w7 ⟨rfl, rfl⟩
        go_wp2_with fail
        go_ret
        exact ⟨rfl, hbw6⟩
end Go.Proofs.YtfldaknhdggdiaaDoor
