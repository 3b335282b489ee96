/-
  What laws.FnLetters draws: a number about the letters.
-/
import Derived.Test.YtalkbebgghhjnaaDoorDrawMore
namespace Go.Proofs.YtalkbebgghhjnaaDoor
open Go.RowKit

theorem drawletter_any (A : Option Addr) (len cap : Nat) (w : World) (hcode : CodeOk w w.heap.size A len) : Calls Tryd.prog 7 #[.slice A len cap] w fun e w' => ∃ x : Int, e = .returned (.int .i64 x) ∧ (-2 ≤ x ∧ x ≤ 49) ∧ Below w.heap.size w w' := by
  have HC := Lib.hid (new_any A len cap w hcode)
  clear hcode
  go_enter Tryd.func7, Tryd.ntmps7
  go_wp2_with fail
  refine HC.out.mono ?_
  rintro e w1 ⟨g, rfl, hg, hc1, hb1⟩
  have HB1 := Lib.hid hb1
  clear hb1
  go_wp2_with fail
  refine (below_any g 52 (by omega) (by omega) _ hc1).mono ?_
  rintro e w2 ⟨y, rfl, ⟨hy0, hy1⟩, hc2, hg2⟩
  have hy2 : y ≤ 51 := by simpa using hy1
  have HG2 := Lib.hid hg2
  clear hg2 hy1
  go_wp2_with fail
  go_ret
  exact ⟨y - 2, rfl, by omega, HB1.out.trans (below_of_only HG2.out HB1.out.size hg)⟩
end Go.Proofs.YtalkbebgghhjnaaDoor
