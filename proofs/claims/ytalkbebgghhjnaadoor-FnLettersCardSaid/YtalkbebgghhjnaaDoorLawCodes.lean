/-
  The laws of BitsOf and Decode answer true at every input.
-/
import Derived.Test.YtalkbebgghhjnaaDoorDecode
import Derived.Test.YtalkbebgghhjnaaDoorOwn
namespace Go.Proofs.YtalkbebgghhjnaaDoor
open Go.RowKit

theorem law_bitsof (k : Int) (w : World) (hc : Codes w) : Calls Tryd.prog 4 #[.int .i64 k] w fun e w' => e = .returned (.bool true) ∧ Below w.heap.size w w' := by
  have HS := Lib.hid (spec_bitsof k w)
  have HI := Lib.hid (impl_bitsof k w hc)
  obtain ⟨v, hv⟩ : ∃ v, bitsOf k = v := ⟨_, rfl⟩
  rw [hv] at HS HI
  clear hv hc
  go_enter Tryd.func4, Tryd.ntmps4
  go_wp2_with fail
  refine HS.out.mono ?_
  rintro e w' ⟨rfl, rfl⟩
  go_wp2_with fail
  refine HI.out.mono ?_
  rintro e w' ⟨rfl, rfl⟩
  go_wp2_with fail
  go_ret
  exact ⟨rfl, Below.refl _ _⟩

theorem law_decode (x : Int) (h0 : 0 ≤ x) (h1 : x ≤ 4294967295) (n : Int) (w : World) (hc : Codes w) : Calls Tryd.prog 5 #[.int .u32 x, .int .i64 n] w fun e w' => e = .returned (.bool true) ∧ Below w.heap.size w w' := by
  obtain ⟨y, rfl⟩ : ∃ y : Nat, x = y := ⟨x.toNat, by omega⟩
  have HS := Lib.hid (spec_decode y (by omega) n w)
  have HI := Lib.hid (impl_decode y n w hc)
  obtain ⟨p, q, hpq⟩ : ∃ p q, decode y n = (p, q) := ⟨_, _, rfl⟩
  rw [hpq] at HS HI
  clear hpq hc h0 h1
  go_enter Tryd.func5, Tryd.ntmps5
  go_wp2_with fail
  refine HS.out.mono ?_
  rintro e w' ⟨rfl, rfl⟩
  go_wp2_with fail
  refine HI.out.mono ?_
  rintro e w' ⟨rfl, rfl⟩
  go_wp2_with fail
  go_ret
  exact ⟨rfl, Below.refl _ _⟩
end Go.Proofs.YtalkbebgghhjnaaDoor
