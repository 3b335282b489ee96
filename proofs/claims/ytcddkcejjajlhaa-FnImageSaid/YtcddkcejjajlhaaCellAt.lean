/-
  Four bytes as a cell.
-/
import Derived.Test.YtcddkcejjajlhaaImgSpec
namespace Go.Proofs.Ytcddkcejjajlhaa
open Go.RowKit Go

/-- The number of the first i bytes of four. -/
def wpart (a b c d i : Nat) : Nat := if i = 0 then 0 else if i = 1 then a else if i = 2 then a + b * 256 else if i = 3 then a + b * 256 + c * 65536 else wordB a b c d
theorem or_low {x y k : Nat} (hx : x < 2 ^ k) : x ||| y * 2 ^ k = x + y * 2 ^ k := by
  rw [Nat.or_comm, ← Nat.shiftLeft_eq, ← Nat.shiftLeft_add_eq_or_of_lt hx]
  omega
theorem or_int {x y k : Nat} (hx : x < 2 ^ k) (h1 : x + y * 2 ^ k < 4294967296) : bits .or .u32 (x : Int) ((y * 2 ^ k : Nat) : Int) = ((x + y * 2 ^ k : Nat) : Int) := by
  rw [u32_or_nat _ _ (by omega) (by omega), or_low hx]
set_option maxHeartbeats 1000000 in
theorem impl_cellat (g o n m : Nat) (a b c d : Nat) (ha : a < 256) (hb : b < 256) (hc : c < 256) (hd : d < 256) (hn : 4 ≤ n) (w : World)
    (h0 : w.cell? ⟨g, o, none⟩ = some (.int .u8 (a : Int))) (h1 : w.cell? ⟨g, o + 1, none⟩ = some (.int .u8 (b : Int))) (h2 : w.cell? ⟨g, o + 2, none⟩ = some (.int .u8 (c : Int))) (h3 : w.cell? ⟨g, o + 3, none⟩ = some (.int .u8 (d : Int))) :
    Calls Try.prog 62 #[.slice (some ⟨g, o, none⟩) n m] w fun e w' => e = .returned (.int .u32 ((wordB a b c d : Nat) : Int)) ∧ w = w' := by
  have i0 : (0 : Int) < (n : Int) := by omega
  have i1 : (1 : Int) < (n : Int) := by omega
  have i2 : (2 : Int) < (n : Int) := by omega
  have i3 : (3 : Int) < (n : Int) := by omega
  go_enter Try.func62, Try.ntmps62
  go_wp2
  go_loop [3, 5] (fun vs vi => ∃ i : Nat, vi = .int .i64 i ∧ vs = .int .u32 ((wpart a b c d i : Nat) : Int) ∧ i ≤ 4) (fun _ vi => 4 - (intOf vi).toNat)
  case atStart => exact ⟨0, rfl, rfl, by omega⟩
  case round =>
    obtain ⟨i, rfl, rfl, hi⟩ := hrel
    by_cases hp : i < 4
    · have h4 : i = 0 ∨ i = 1 ∨ i = 2 ∨ i = 3 := by omega
      clear hi hp
      have e0 : bits .or .u32 ((wpart a b c d 0 : Nat) : Int) (a : Int) = ((wpart a b c d 1 : Nat) : Int) := by
        have h := or_int (x := 0) (y := a) (k := 0) (by omega) (by omega)
        rw [show ((a * 2 ^ 0 : Nat) : Int) = (a : Int) by omega] at h
        refine h.trans ?_
        show _ = (a : Int)
        omega
      have e1 : bits .or .u32 ((wpart a b c d 1 : Nat) : Int) ((b : Int) * 256) = ((wpart a b c d 2 : Nat) : Int) := by
        have h := or_int (x := a) (y := b) (k := 8) (by omega) (by omega)
        rw [show ((b * 2 ^ 8 : Nat) : Int) = (b : Int) * 256 by omega] at h
        exact h
      have e2 : bits .or .u32 ((wpart a b c d 2 : Nat) : Int) ((c : Int) * 65536) = ((wpart a b c d 3 : Nat) : Int) := by
        have h := or_int (x := a + b * 256) (y := c) (k := 16) (by omega) (by omega)
        rw [show ((c * 2 ^ 16 : Nat) : Int) = (c : Int) * 65536 by omega] at h
        exact h
      have e3 : bits .or .u32 ((wpart a b c d 3 : Nat) : Int) ((d : Int) * 16777216) = ((wpart a b c d 4 : Nat) : Int) := by
        have h := or_int (x := a + b * 256 + c * 65536) (y := d) (k := 24) (by omega) (by omega)
        rw [show ((d * 2 ^ 24 : Nat) : Int) = (d : Int) * 16777216 by omega] at h
        exact h
      have E := Lib.hid (And.intro e0 (And.intro e1 (And.intro e2 e3)))
      clear e0 e1 e2 e3
      rcases h4 with rfl | rfl | rfl | rfl
      · go_wp2
        go_round
        case rel => exact ⟨1, rfl, congrArg (Value.int .u32) E.out.1, by omega⟩
        case measure => simp [intOf]
      · go_wp2
        go_round
        case rel => exact ⟨2, rfl, congrArg (Value.int .u32) E.out.2.1, by omega⟩
        case measure => simp [intOf]
      · go_wp2
        go_round
        case rel => exact ⟨3, rfl, congrArg (Value.int .u32) E.out.2.2.1, by omega⟩
        case measure => simp [intOf]
      · go_wp2
        go_round
        case rel => exact ⟨4, rfl, congrArg (Value.int .u32) E.out.2.2.2, by omega⟩
        case measure => simp [intOf]
    · obtain rfl : i = 4 := by omega
      go_wp2
      go_ret
      exact ⟨rfl, rfl⟩
end Go.Proofs.Ytcddkcejjajlhaa
