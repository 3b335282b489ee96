/-
  impl.ReadHex reads the number whose digits in base 16 its argument is; laws.FnExactReadHex answers true at every text.
-/
import Derived.Test.YtfldaknhdggdiaaDoorReadHexWalk
import Derived.Test.YtfldaknhdggdiaaDoorParse16
import Derived.Test.YtfldaknhdggdiaaDoorLawHexText
import Derived.Test.YtfldaknhdggdiaaDoorLaidErr
namespace Go.Proofs.YtfldaknhdggdiaaDoor
open Go.RowKit

/-- What the calls ask of the library's two errors. -/
def Errs (w : World) : Prop := ((∃ t p, w.cell? ⟨0, 0, none⟩ = some (.iface t p)) ∧ ∃ t p, w.cell? ⟨1, 0, none⟩ = some (.iface t p)) ∧ 0 < w.heap.size ∧ 1 < w.heap.size
theorem lt_of_cell {w : World} {g : Nat} {v : Value} (h : w.cell? ⟨g, 0, none⟩ = some v) : g < w.heap.size := by
  rcases Nat.lt_or_ge g w.heap.size with hl | hl
  · exact hl
  · have e : w.heap[g]? = none := Array.getElem?_eq_none hl
    simp [World.cell?, e] at h
theorem Errs.of {w : World} (h0 : ∃ t p, w.cell? ⟨0, 0, none⟩ = some (.iface t p)) (h1 : ∃ t p, w.cell? ⟨1, 0, none⟩ = some (.iface t p)) : Errs w := by
  obtain ⟨t, p, h0⟩ := h0
  obtain ⟨t1, p1, h1⟩ := h1
  exact ⟨⟨⟨t, p, h0⟩, t1, p1, h1⟩, lt_of_cell h0, lt_of_cell h1⟩
theorem Errs.below {w w' : World} (h : Errs w) (hb : Below w.heap.size w w') : Errs w' := by
  obtain ⟨⟨⟨t, p, h0⟩, t1, p1, h1⟩, l0, l1⟩ := h
  exact .of ⟨t, p, (hb.cell (p := ⟨_, _, none⟩) l0).trans h0⟩ ⟨t1, p1, (hb.cell (p := ⟨_, _, none⟩) l1).trans h1⟩

/-- strconv.ParseUint(s, 16, 32), as far as a caller that writes what was read back asks. -/
def ParsedOut (bs : List UInt8) (w : World) (e : Ending) (w' : World) : Prop :=
  Below w.heap.size w w' ∧ ((∃ v : Int, (0 ≤ v ∧ v < 18446744073709551616) ∧ e = .returned (.tuple #[.int .u64 v, .nilIface]) ∧ (∀ m : Nat, m < 4294967296 → bs = hexDigits m → v = m)) ∨
    (∃ v t p, e = .returned (.tuple #[.int .u64 v, .iface t p]) ∧ ∀ m : Nat, m < 4294967296 → bs ≠ hexDigits m))
theorem parse16 (s : ByteArray) (hs : s.size ≤ 1048576) (w : World) (he : Errs w) :
    Calls Tryd.prog 25 #[.string s, .int .i64 16, .int .i64 32] w (ParsedOut s.data.toList w) := by
  have HC := Lib.hid (parse16_in s hs w)
  have HE := Lib.hid he
  clear he
  go_enter Tryd.func25, Tryd.ntmps25
  go_wp2_with fail
  refine HC.out.mono ?_
  rintro e w1 ⟨v, ev, rfl, hv, hev, hm, hb⟩
  have HM := Lib.hid hm
  have HV := Lib.hid hv
  clear hm hv
  rcases hev with rfl | rfl | rfl
  · go_wp2_with fail
    go_ret2
    exact ⟨hb, .inl ⟨v, HV.out, rfl, fun m h0 h1 => (HM.out m h0 h1).2⟩⟩
  · obtain ⟨t, p, hc⟩ := (HE.out.below hb).1.1
    have HT := Lib.hid (fun fn base bits => Any.strconv_toError_syntax Tryd.laysC245 fn s base bits _ w1 (by omega) hc (.inr ⟨t, p, rfl⟩))
    clear hc
    go_wp2_with fail
    refine (HT.out _ _ _).mono ?_
    rintro e w2 ⟨N, rfl, -, -, hb2⟩
    go_wp2_with fail
    go_ret2
    exact ⟨hb.trans (hb2.mono hb.size), .inr ⟨_, _, _, rfl, fun m h0 h1 => by cases (HM.out m h0 h1).1⟩⟩
  · obtain ⟨t, p, hc⟩ := (HE.out.below hb).1.2
    have HT := Lib.hid (fun fn base bits => Tryd.strconv_toError_range fn s base bits _ w1 (by omega) hc (.inr ⟨t, p, rfl⟩))
    clear hc
    go_wp2_with fail
    refine (HT.out _ _ _).mono ?_
    rintro e w2 ⟨N, rfl, -, -, hb2⟩
    go_wp2_with fail
    go_ret2
    exact ⟨hb.trans (hb2.mono hb.size), .inr ⟨_, _, _, rfl, fun m h0 h1 => by cases (HM.out m h0 h1).1⟩⟩

set_option maxRecDepth 100000 in
theorem impl_readhex (s : ByteArray) (hs : s.size ≤ 1048576) (w : World) (he : Errs w) (hd : Deb w) :
    Calls Tryd.prog 13 #[.string s] w (HexOut s.data.toList w) := by
  have HC := Lib.hid (parse16 s hs w he)
  have HD := Lib.hid hd
  clear he hd
  go_enter Tryd.func13, Tryd.ntmps13
  go_wp2_with fail
  refine HC.out.mono ?_
  rintro e w1 ⟨hb, ⟨v, hv, rfl, hm⟩ | ⟨v, t, p, rfl, no⟩⟩
  · obtain ⟨n, hn, hnb⟩ : ∃ n : Nat, IntKind.u32.wrap v = (n : Int) ∧ n < 4294967296 := ⟨(v % 4294967296).toNat, by rw [IntKind.wrap_u32]; omega, by omega⟩
    have key : ∀ m : Nat, m < 4294967296 → s.data.toList = hexDigits m → m = n := fun m h0 h1 => by
      have := hm m h0 h1
      rw [IntKind.wrap_u32] at hn
      omega
    have KEY := Lib.hid key
    have HI := Lib.hid (impl_hextext n hnb w1 (HD.out.below hb))
    clear hm hv key
    by_cases hq : hexDigits n = s.data.toList
    · have he1 : (!hexDigits n == s.toList) = false := by rw [ByteArray.toList_eq, hq]; simp
      have HQ := Lib.hid hq
      clear hq
      go_wp2_with (go_at_call 14; refine HI.out.mono ?_; rintro e w2 ⟨rfl, hb2⟩)
      go_ret2
      exact HexOut.yes hnb HQ.out.symm (hb.trans (hb2.mono hb.size))
    · have he1 : (!hexDigits n == s.toList) = true := by rw [ByteArray.toList_eq]; simpa using hq
      have HQ := Lib.hid hq
      clear hq
      go_wp2_with (go_at_call 14; refine HI.out.mono ?_; rintro e w2 ⟨rfl, hb2⟩)
      go_ret2
      exact HexOut.no (fun m h0 h => HQ.out (by rw [h, KEY.out m h0 h])) (hb.trans (hb2.mono hb.size))
  · have NO := Lib.hid no
    clear no
    go_wp2_with fail
    go_ret2
    exact HexOut.no NO.out hb

theorem law_exreadhex (s : ByteArray) (w : World) (he : Errs w) (hd : Deb w) :
    Calls Tryd.prog 7 #[.string s] w fun e w' => e = .returned (.bool true) ∧ Below w.heap.size w w' := by
  by_cases hs : s.size ≤ 1048576
  · have HS := Lib.hid (spec_readhex s hs w)
    have HI : Hid (∀ w1, Below w.heap.size w w1 → Calls Tryd.prog 13 #[.string s] w1 (HexOut s.data.toList w1)) := Lib.hid fun w1 hb => impl_readhex s hs w1 (he.below hb) (hd.below hb)
    have i1 : (s.size : Int) ≤ 1048576 := by omega
    clear he hd
    go_enter Tryd.func7, Tryd.ntmps7
    go_wp2_with fail
    refine HS.out.mono ?_
    rintro e w1 ⟨n, b, rfl, hr, hb⟩
    have HR := Lib.hid hr
    clear hr
    go_wp2_with fail
    refine (HI.out w1 hb).mono ?_
    rintro e w2 ⟨n', b', rfl, hr', hb2⟩
    obtain ⟨e1, e2⟩ := HR.out.unique hr'
    subst e1 e2
    clear hr'
    go_wp2_with fail
    go_ret
    exact ⟨rfl, hb.trans (hb2.mono hb.size)⟩
  · have i1 : (1048576 : Int) < (s.size : Int) := by omega
    clear he hd
    go_enter Tryd.func7, Tryd.ntmps7
    go_wp2_with fail
    go_ret
    exact ⟨rfl, Below.refl _ _⟩
end Go.Proofs.YtfldaknhdggdiaaDoor
