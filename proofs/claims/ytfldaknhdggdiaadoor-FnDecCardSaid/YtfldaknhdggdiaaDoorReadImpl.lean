/-
  impl.ReadDec answers the number of -9999999999 .. 9999999999 whose decimal text its argument is, and true; or 0 and false.
-/
import Derived.Test.YtfldaknhdggdiaaDoorAtoiMath
import Derived.Test.YtfldaknhdggdiaaDoorLaid
import Derived.Test.YtfldaknhdggdiaaDoorImplDec
import Derived.Test.YtfldaknhdggdiaaDoorShelf
import Derived.BigQuiet
import Derived.Deep.QuietTactic
import Derived.Lib.AtoiErrMem
namespace Go.Proofs.YtfldaknhdggdiaaDoor
open Go.RowKit

/-- strconv.Atoi, as far as a caller that writes what was read back asks: a number, or an error that is not nil. -/
theorem atoi_any (s : ByteArray) (hs : s.size ≤ 1048576) (w : World) (hc0 : ∃ t p, w.cell? ⟨0, 0, none⟩ = some (.iface t p)) (hc1 : ∃ t p, w.cell? ⟨1, 0, none⟩ = some (.iface t p)) :
    Calls Tryd.prog 23 #[.string s] w fun e w' => Below w.heap.size w w' ∧ ((∃ v, e = .returned (.tuple #[.int .i64 v, .nilIface]) ∧ Lib.atoiAll s.data.toList = .ok v) ∨ (∃ v t p, e = .returned (.tuple #[.int .i64 v, .iface t p]) ∧ ∀ v, Lib.atoiAll s.data.toList ≠ .ok v)) := by
  cases h : Lib.atoiAll s.data.toList
  · rename_i v
    refine (Tryd.strconv_Atoi_ok s (by omega) v h w).mono fun e w' ⟨he, hw⟩ => ⟨?_, .inl ⟨v, he, rfl⟩⟩
    rcases hw with rfl | ⟨t, rfl⟩
    · exact Below.refl _ _
    · exact Lib.bytesWorld_below _ _ _
  · obtain ⟨t, p, hc⟩ := hc0
    refine (Any.strconv_Atoi_syntax Tryd.laysC172 s (by omega) h _ w hc (.inr ⟨t, p, rfl⟩)).mono fun e w' ⟨N, he, _, _, hb⟩ => ⟨hb, .inr ⟨_, _, _, he, fun v => by intro h; cases h⟩⟩
  · obtain ⟨t, p, hc⟩ := hc1
    refine (Tryd.strconv_Atoi_range s (by omega) h _ w hc (.inr ⟨t, p, rfl⟩)).mono fun e w' ⟨N, he, _, _, hb⟩ => ⟨hb, .inr ⟨_, _, _, he, fun v => by intro h; cases h⟩⟩

/-- How reading a text ends. -/
def ReadOut (l : List UInt8) (w : World) (e : Ending) (w' : World) : Prop := ∃ n b, e = .returned (.tuple #[.int .i64 n, .bool b]) ∧ ReadsDec l n b ∧ Below w.heap.size w w'
theorem ReadOut.yes {l : List UInt8} {w w' : World} {v : Int} (h0 : -9999999999 ≤ v) (h1 : v ≤ 9999999999) (h : l = Lib.itoa v) (hb : Below w.heap.size w w') : ReadOut l w (.returned (.tuple #[.int .i64 v, .bool true])) w' :=
  ⟨v, true, rfl, .inl ⟨rfl, h0, h1, h⟩, hb⟩
theorem ReadOut.no {l : List UInt8} {w w' : World} (h : ∀ m : Int, -9999999999 ≤ m → m ≤ 9999999999 → l ≠ Lib.itoa m) (hb : Below w.heap.size w w') : ReadOut l w (.returned (.tuple #[.int .i64 0, .bool false])) w' :=
  ⟨0, false, rfl, .inr ⟨rfl, rfl, h⟩, hb⟩

set_option maxRecDepth 100000 in
theorem impl_readdec (s : ByteArray) (hs : s.size ≤ 1048576) (w : World) (hc0 : ∃ t p, w.cell? ⟨0, 0, none⟩ = some (.iface t p)) (hc1 : ∃ t p, w.cell? ⟨1, 0, none⟩ = some (.iface t p))
    (ht : Lib.TabIs Tryd.prog w "internal/strconv.uint64pow10" .u64 Lib.pow10Tab) :
    Calls Tryd.prog 11 #[.string s] w (ReadOut s.data.toList w) := by
  have HC := Lib.hid (atoi_any s hs w hc0 hc1)
  have HT := Lib.hid ht
  clear hc0 hc1 ht
  go_enter Tryd.func11, Tryd.ntmps11
  go_wp2_with fail
  refine HC.out.mono ?_
  rintro e w1 ⟨hb, ⟨v, rfl, hv⟩ | ⟨v, t, p, rfl, hv⟩⟩
  · have hbd := atoi_bounds hv
    have HV := Lib.hid hv
    clear hv
    by_cases h0 : v < -9999999999
    · go_wp2_with fail
      go_ret2
      exact ReadOut.no (no_text HV.out (by omega)) hb
    · by_cases h1 : 9999999999 < v
      · go_wp2_with fail
        go_ret2
        exact ReadOut.no (no_text HV.out (by omega)) hb
      · by_cases he : Lib.itoa v = s.data.toList
        · have he1 : (!Lib.itoa v == s.toList) = false := by rw [ByteArray.toList_eq, he]; simp
          have HE := Lib.hid he
          clear he
          go_wp2_with (go_at_call 10; refine (impl_dectext _ hbd.1 hbd.2 _ (tab_below HT.out hb)).mono ?_; rintro e w2 ⟨rfl, hb2⟩)
          go_ret2
          exact ReadOut.yes (by omega) (by omega) HE.out.symm (hb.trans (hb2.mono hb.size))
        · have he1 : (!Lib.itoa v == s.toList) = true := by rw [ByteArray.toList_eq]; simpa using he
          have HE := Lib.hid he
          clear he
          go_wp2_with (go_at_call 10; refine (impl_dectext _ hbd.1 hbd.2 _ (tab_below HT.out hb)).mono ?_; rintro e w2 ⟨rfl, hb2⟩)
          go_ret2
          exact ReadOut.no (no_text HV.out (fun _ _ h => HE.out h.symm)) (hb.trans (hb2.mono hb.size))
  · have NO : Hid (∀ m : Int, -9999999999 ≤ m → m ≤ 9999999999 → s.data.toList ≠ Lib.itoa m) := Lib.hid fun m h0 h1 e => hv m (by rw [e]; exact atoi_itoa h0 h1)
    clear hv
    go_wp2_with fail
    go_ret2
    exact ReadOut.no NO.out hb
end Go.Proofs.YtfldaknhdggdiaaDoor
