/-
  What laws.FnDec draws: an int, and a word of 32 bits.
-/
import Derived.Test.YtfldaknhdggdiaaDoorDrawInts
namespace Go.Proofs.YtfldaknhdggdiaaDoor
open Go.RowKit

theorem drawdec_any (A : Option Addr) (len cap : Nat) (w : World) (hcode : CodeOk w w.heap.size A len) : Calls Tryd.prog 9 #[.slice A len cap] w fun e w' => ∃ x : Int, e = .returned (.int .i64 x) ∧ (-9223372036854775808 ≤ x ∧ x ≤ 9223372036854775807) ∧ Below w.heap.size w w' := by
  have HC := Lib.hid (new_any A len cap w hcode)
  clear hcode
  go_enter Tryd.func9, Tryd.ntmps9
  go_wp2_with fail
  refine HC.out.mono ?_
  rintro e w1 ⟨g, rfl, hg, hc1, hb1⟩
  have HB1 := Lib.hid hb1
  clear hb1
  go_wp2_with fail
  refine (below_any g 100000 (by omega) (by omega) _ hc1).mono ?_
  rintro e w2 ⟨y, rfl, ⟨hy0, hy1⟩, hc2, hg2⟩
  have hy2 : y ≤ 99999 := by simpa using hy1
  have HG2 := Lib.hid hg2
  clear hg2 hy1
  go_wp2_with fail
  refine (below_any g 1000 (by omega) (by omega) _ hc2).mono ?_
  rintro e w3 ⟨z, rfl, ⟨hz0, hz1⟩, hc3, hg3⟩
  have hz2 : z ≤ 999 := by simpa using hz1
  have hglt : g < w3.heap.size := by obtain ⟨_, _, _, _, _, hb, _⟩ := hc3; exact hb.lt
  have HG3 := Lib.hid hg3
  clear hg3 hz1
  go_wp2_with fail
  refine (pickint_any g w3.heap.size [0, 1, -1, 10, 9999999999, -9999999999, 10000000000, 9223372036854775807, -9223372036854775808, y, -z] _ (hc3.grown (World.grownBy_alloc w3 _ none) (fun _ h => by cases h)) (ints_new w3 3 _) (by omega) (by simp) (by simp) (by simp)).mono ?_
  rintro e w4 ⟨x, rfl, hx, hc4, hg4⟩
  have HG4 := Lib.hid hg4
  have HX := Lib.hid hx
  clear hg4 hx
  go_wp2_with fail
  go_ret
  refine ⟨x, rfl, ?_, ?_⟩
  · have := HX.out
    simp only [List.mem_cons, List.not_mem_nil, or_false] at this
    omega
  · have h1 : w1.grownBy w4 (some g) := only_trans (only_alloc (only_trans HG2.out HG3.out) _) HG4.out
    exact HB1.out.trans (below_of_only h1 HB1.out.size hg)
theorem drawhex_any (A : Option Addr) (len cap : Nat) (w : World) (hcode : CodeOk w w.heap.size A len) : Calls Tryd.prog 12 #[.slice A len cap] w fun e w' => ∃ x : Nat, e = .returned (.int .u32 x) ∧ x < 4294967296 ∧ Below w.heap.size w w' := by
  have HC := Lib.hid (new_any A len cap w hcode)
  clear hcode
  go_enter Tryd.func12, Tryd.ntmps12
  go_wp2_with fail
  refine HC.out.mono ?_
  rintro e w1 ⟨g, rfl, hg, hc1, hb1⟩
  have HB1 := Lib.hid hb1
  clear hb1
  go_wp2_with fail
  refine (word_any g _ hc1).mono ?_
  rintro e w2 ⟨y, rfl, hy, hc2, hg2⟩
  have HG2 := Lib.hid hg2
  have HY := Lib.hid hy
  clear hg2 hy
  go_wp2_with fail
  go_ret
  exact ⟨y, rfl, HY.out, HB1.out.trans (below_of_only HG2.out HB1.out.size hg)⟩
end Go.Proofs.YtfldaknhdggdiaaDoor
