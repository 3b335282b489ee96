/-
  laws.FnExactReadDec answers true at every text: both sides read the same number.
-/
import Derived.Test.YtfldaknhdggdiaaDoorReadWalk
import Derived.Test.YtfldaknhdggdiaaDoorReadImpl
import Derived.Test.YtfldaknhdggdiaaDoorLaidErr
namespace Go.Proofs.YtfldaknhdggdiaaDoor
open Go.RowKit

theorem law_exreaddec (s : ByteArray) (w : World) (hc0 : ∃ t p, w.cell? ⟨0, 0, none⟩ = some (.iface t p)) (hc1 : ∃ t p, w.cell? ⟨1, 0, none⟩ = some (.iface t p))
    (ht : Lib.TabIs Tryd.prog w "internal/strconv.uint64pow10" .u64 Lib.pow10Tab) :
    Calls Tryd.prog 5 #[.string s] w fun e w' => e = .returned (.bool true) ∧ Below w.heap.size w w' := by
  by_cases hs : s.size ≤ 1048576
  · have HI := Lib.hid (impl_readdec s hs w hc0 hc1 ht)
    have i1 : (s.size : Int) ≤ 1048576 := by omega
    clear hc0 hc1 ht
    go_enter Tryd.func5, Tryd.ntmps5
    go_wp2_with fail
    refine (spec_readdec s hs _).mono ?_
    rintro e w' ⟨n, b, rfl, hr, rfl⟩
    have HR := Lib.hid hr
    clear hr
    go_wp2_with fail
    refine HI.out.mono ?_
    rintro e w' ⟨n', b', rfl, hr', hb⟩
    obtain ⟨e1, e2⟩ := HR.out.unique hr'
    subst e1 e2
    clear hr'
    go_wp2_with fail
    go_ret
    exact ⟨rfl, hb⟩
  · have i1 : (1048576 : Int) < (s.size : Int) := by omega
    clear hc0 hc1 ht
    go_enter Tryd.func5, Tryd.ntmps5
    go_wp2_with fail
    go_ret
    exact ⟨rfl, Below.refl _ _⟩
end Go.Proofs.YtfldaknhdggdiaaDoor
