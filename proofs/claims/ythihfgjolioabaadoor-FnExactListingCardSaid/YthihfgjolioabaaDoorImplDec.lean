/-
  impl.DecText answers the number's decimal numeral, at every int.
-/
import Derived.Test.YthihfgjolioabaaDoorLaid
import Derived.Test.YthihfgjolioabaaDoorShelf
namespace Go.Proofs.YthihfgjolioabaaDoor
open Go.RowKit

theorem impl_dectext (n : Int) (h0 : -9223372036854775808 ≤ n) (h1 : n ≤ 9223372036854775807) (w : World) (ht : Lib.TabIs Tryd.prog w "internal/strconv.uint64pow10" .u64 Lib.pow10Tab) :
    Calls Tryd.prog 17 #[.int .i64 n] w fun e w' => e = .returned (.string ⟨(Lib.itoa n).toArray⟩) ∧ Below w.heap.size w w' := by
  have HT := Lib.hid ht
  clear ht
  go_enter Tryd.func17, Tryd.ntmps17
  go_wp2_with (go_at_call 26; refine (Tryd.strconv_Itoa n h0 h1 _ HT.out).mono ?_; rintro e w' ⟨rfl, k, os, hw⟩)
  go_ret
  exact ⟨rfl, hw ▸ below_regrow w k os⟩
end Go.Proofs.YthihfgjolioabaaDoor
