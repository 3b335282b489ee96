/-
  impl.DecText answers the number's decimal numeral, at every int.
-/
import Derived.Test.YtlkkobffgbjkpaaGreatDoorLaid
import Derived.Test.YtlkkobffgbjkpaaGreatDoorShelf
namespace Go.Proofs.YtlkkobffgbjkpaaGreatDoor
open Go.RowKit

theorem impl_dectext (n : Int) (h0 : -9223372036854775808 ≤ n) (h1 : n ≤ 9223372036854775807) (w : World) (ht : Lib.TabIs Tryz.prog w "internal/strconv.uint64pow10" .u64 Lib.pow10Tab) :
    Calls Tryz.prog 117 #[.int .i64 n] w fun e w' => e = .returned (.string ⟨(Lib.itoa n).toArray⟩) ∧ Below w.heap.size w w' := by
  have HT := Lib.hid ht
  clear ht
  go_enter Tryz.func117, Tryz.ntmps117
  go_wp2_with (go_at_call 139; refine (Tryz.strconv_Itoa n h0 h1 _ HT.out).mono ?_; rintro e w' ⟨rfl, k, os, hw⟩)
  go_ret
  exact ⟨rfl, hw ▸ below_regrow w k os⟩
end Go.Proofs.YtlkkobffgbjkpaaGreatDoor
