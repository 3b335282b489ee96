/-
  The model's draws: a field, a name and more, a list of fields.
-/
import Derived.Test.YtaagaimafhadeaaDoorDrawName
import Derived.Test.YtaagaimafhadeaaDoorDrawInts
import Derived.Test.YtaagaimafhadeaaDoorFieldOk
namespace Go.Proofs.YtaagaimafhadeaaDoor
open Go.RowKit Go

/-- A number of 32 bits is drawn. -/
def DrewF (g : Nat) (w : World) (e : Ending) (w' : World) : Prop := ∃ f : Nat, e = .returned (.int .u32 f) ∧ f < 4294967296 ∧ CurAt w' g ∧ w.grownBy w' (some g)
theorem xor_nat (x y : Int) : ∃ n : Nat, bits .xor .u32 x y = (n : Int) ∧ n < 4294967296 := by
  have h : bits .xor .u32 x y = IntKind.u32.wrap ((BitVec.ofInt 32 x ^^^ BitVec.ofInt 32 y).toNat : Int) := rfl
  rw [h]
  exact u32_nat _

set_option maxRecDepth 100000 in
set_option maxHeartbeats 2000000 in
theorem field_any (g : Nat) (w : World) (hc : CurAt w g) : Calls Tryd.prog 40 #[.pointer (some ⟨g, 0, none⟩)] w (DrewF g w) := by
  have HN := Lib.hid (name_any g w hc)
  clear hc
  go_enter Tryd.func40, Tryd.ntmps40
  go_wp2_with fail
  refine HN.out.mono ?_
  rintro e w1 ⟨s, rfl, hs, hc1, hg1⟩
  have HF := Lib.hid (spec_l03one s (by omega) w1)
  have hp28 := fillN_lt s.data.toList 28
  obtain ⟨p, q, hpq⟩ : ∃ p q, fillN 28 s.data.toList = (p, q) := ⟨_, _, rfl⟩
  rw [hpq] at HF hp28
  have hp28 : p < 268435456 := hp28
  have HG1 := Lib.hid hg1
  have HB := Lib.hid (below_any g 6 (by omega) (by omega) w1 hc1)
  clear hpq hg1 hc1 HN
  go_wp2_with fail
  refine HF.out.mono ?_
  rintro e w' ⟨rfl, rfl⟩
  go_wp2_with fail
  refine HB.out.mono ?_
  rintro e w2 ⟨x, rfl, ⟨hx0, hx1⟩, hc2, hg2⟩
  have HG2 := Lib.hid (only_trans HG1.out hg2)
  clear hg2 HB HF
  by_cases h0 : x = 0
  · have h0' : (x == 0) = true := by simpa using h0
    clear h0
    go_wp2_with fail
    refine (below_any g 65536 (by omega) (by omega) _ hc2).mono ?_
    rintro e w3 ⟨y, rfl, ⟨hy0, hy1⟩, hc3, hg3⟩
    have hy2 : y ≤ 65535 := by simpa using hy1
    have HG3 := Lib.hid (only_trans HG2.out hg3)
    clear hg3 hy1
    go_wp2_with fail
    refine (below_any g 4096 (by omega) (by omega) _ hc3).mono ?_
    rintro e w4 ⟨z, rfl, ⟨hz0, hz1⟩, hc4, hg4⟩
    have hz2 : z ≤ 4095 := by simpa using hz1
    have HG4 := Lib.hid (only_trans HG3.out hg4)
    clear hg4 hz1
    obtain ⟨n, hn⟩ : ∃ n : Nat, y * 4096 + z = (n : Int) := ⟨(y * 4096 + z).toNat, by omega⟩
    have hnl : n < 268435456 := by omega
    have HNN := Lib.hid hn
    have HNL := Lib.hid hnl
    clear hn hnl
    go_wp2_with fail
    go_ret
    exact ⟨n, by rw [← HNN.out]; rfl, by have := HNL.out; omega, hc4, HG4.out⟩
  · have h0' : (x == 0) = false := by simpa using h0
    by_cases h1 : x = 1
    · have h1' : (x == 1) = true := by simpa using h1
      clear h0 h1
      go_wp2_with fail
      refine (below_any g 29 (by omega) (by omega) _ hc2).mono ?_
      rintro e w3 ⟨y, rfl, ⟨hy0, hy1⟩, hc3, hg3⟩
      have hy2 : y ≤ 28 := by simpa using hy1
      obtain ⟨m, rfl⟩ : ∃ m : Nat, y = m := ⟨y.toNat, by omega⟩
      have HG3 := Lib.hid (only_trans HG2.out hg3)
      clear hg3 hy1
      obtain ⟨n, hn, hnl⟩ := xor_nat (p : Int) (2 ^ m % 4294967296)
      have HNL := Lib.hid hnl
      clear hnl
      go_wp2_with fail
      go_ret
      exact ⟨n, rfl, HNL.out, hc3, HG3.out⟩
    · have h1' : (x == 1) = false := by simpa using h1
      clear h0 h1
      go_wp2_with fail
      go_ret
      exact ⟨p, rfl, by omega, hc2, HG2.out⟩
end Go.Proofs.YtaagaimafhadeaaDoor
