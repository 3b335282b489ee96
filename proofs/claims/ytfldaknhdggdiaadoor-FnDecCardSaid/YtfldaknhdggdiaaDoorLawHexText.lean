/-
  impl.HexText answers the number's digits in base 16, and laws.FnExactHexText answers true, at every uint32.
-/
import Derived.Test.YtfldaknhdggdiaaDoorHexWalk
import Derived.Test.YtfldaknhdggdiaaDoorHexBits
import Derived.Test.YtfldaknhdggdiaaDoorLaid
namespace Go.Proofs.YtfldaknhdggdiaaDoor
open Go.RowKit

/-- What the calls ask of the table. -/
def Deb (w : World) : Prop := w.cell? ⟨4, 15, none⟩ = some (.int .u8 4) ∧ 4 < w.heap.size
theorem Deb.below {w w' : World} (h : Deb w) (hb : Below w.heap.size w w') : Deb w' := ⟨(hb.cell (p := ⟨_, _, none⟩) h.2).trans h.1, by have := hb.size; have := h.2; omega⟩

theorem formatuint16_in (n : Nat) (h1 : n < 4294967296) (w : World) (hd : Deb w) :
    Calls Tryd.prog 34 #[.int .u64 n, .int .i64 16] w fun e w' => e = .returned (.string ⟨(hexDigits n).toArray⟩) ∧ Below w.heap.size w w' := by
  have HC := Lib.hid (formatbits16 n h1 w hd.1 hd.2)
  clear hd
  go_enter Tryd.func34, Tryd.ntmps34
  go_wp2_with (go_at_call 46; refine HC.out.mono ?_; rintro e w' ⟨rfl, hb⟩)
  go_ret
  exact ⟨rfl, hb⟩
theorem formatuint16 (n : Nat) (h1 : n < 4294967296) (w : World) (hd : Deb w) :
    Calls Tryd.prog 26 #[.int .u64 n, .int .i64 16] w fun e w' => e = .returned (.string ⟨(hexDigits n).toArray⟩) ∧ Below w.heap.size w w' := by
  have HC := Lib.hid (formatuint16_in n h1 w hd)
  clear hd
  go_enter Tryd.func26, Tryd.ntmps26
  go_wp2_with (go_at_call 34; refine HC.out.mono ?_; rintro e w' ⟨rfl, hb⟩)
  go_ret
  exact ⟨rfl, hb⟩
theorem impl_hextext (n : Nat) (h1 : n < 4294967296) (w : World) (hd : Deb w) :
    Calls Tryd.prog 14 #[.int .u32 n] w fun e w' => e = .returned (.string ⟨(hexDigits n).toArray⟩) ∧ Below w.heap.size w w' := by
  have HC := Lib.hid (formatuint16 n h1 w hd)
  clear hd
  go_enter Tryd.func14, Tryd.ntmps14
  go_wp2_with (go_at_call 26; refine HC.out.mono ?_; rintro e w' ⟨rfl, hb⟩)
  go_ret
  exact ⟨rfl, hb⟩
theorem law_exhextext (x : Int) (h0 : 0 ≤ x) (h1 : x ≤ 4294967295) (w : World) (hd : Deb w) :
    Calls Tryd.prog 6 #[.int .u32 x] w fun e w' => e = .returned (.bool true) ∧ Below w.heap.size w w' := by
  obtain ⟨n, rfl⟩ : ∃ n : Nat, x = n := ⟨x.toNat, by omega⟩
  have HC := Lib.hid (impl_hextext n (by omega) w hd)
  clear hd
  go_enter Tryd.func6, Tryd.ntmps6
  go_wp2_with (first | (go_at_call 17; refine (spec_hextext n (by omega) _).mono ?_; rintro e w' ⟨rfl, rfl⟩) | (go_at_call 14; refine HC.out.mono ?_; rintro e w' ⟨rfl, hb⟩))
  go_ret
  exact ⟨rfl, hb⟩
end Go.Proofs.YtfldaknhdggdiaaDoor
