/-
  A cell's four bytes, written into a row.
-/
import Derived.Test.YtcddkcejjajlhaaB8
import Derived.Test.YtcddkcejjajlhaaPutBlk
import Derived.Test.YtcddkcejjajlhaaStoreMath
namespace Go.Proofs.Ytcddkcejjajlhaa
open Go.RowKit Go

/-- The bytes that are written so far. -/
def fpart (x i : Nat) : Array Value := (((fourB x).take i ++ List.replicate (4 - i) 0).map b8v).toArray
theorem fpart_set {x i : Nat} (hi : i < 4) : (fpart x i).setIfInBounds i (b8v ((fourB x).getD i 0)) = fpart x (i + 1) := by
  have h4 : i = 0 ∨ i = 1 ∨ i = 2 ∨ i = 3 := by omega
  rcases h4 with rfl | rfl | rfl | rfl <;> simp [fpart, fourB, b8v]
theorem one_b8 (xs : List Nat) : ∀ u ∈ xs.map b8v, u.oneCell' = true := by
  intro u hu
  obtain ⟨_, _, rfl⟩ := List.mem_map.1 hu
  rfl
set_option maxHeartbeats 1000000 in
theorem impl_putcell (g o n c : Nat) (cur : List Value) (x : Nat) (hx : x < 4294967296) (hn : 4 ≤ n) (hf : o + 4 ≤ cur.length) (w : World) (hg : w.heap[g]? = some (.cells cur.toArray 5 (0, 0))) :
    Calls Try.prog 61 #[.slice (some ⟨g, o, none⟩) n c, .int .u32 x] w fun e w' => e = .returned (.int .i64 4) ∧ w'.heap[g]? = some (.cells (splice cur o ((fourB x).map b8v)).toArray 5 (0, 0)) ∧ w.grownBy w' (some g) := by
  have HG := Lib.hid hg
  clear hg
  go_enter Try.func61, Try.ntmps61
  go_wp2
  go_loopw [7] (fun vi wr => ∃ i : Nat, vi = .int .i64 i ∧ i ≤ 4 ∧ Blk wr w.heap.size 90 (fpart x i) ∧ Below w.heap.size w wr) (fun vi _ => 4 - (intOf vi).toNat)
  case atStart => exact ⟨0, rfl, by omega, Blk.new _ _ _, below_alloc _ _⟩
  case round =>
    obtain ⟨i, rfl, hi, hk, hB⟩ := hrel
    by_cases hp : i < 4
    · have h4 : i = 0 ∨ i = 1 ∨ i = 2 ∨ i = 3 := by omega
      have HB := Lib.hid hB
      have HK := Lib.hid hk
      clear hB hi
      have hk2 := HK.out.put i (b8v ((fourB x).getD i 0))
      rw [fpart_set hp] at hk2
      have HK2 := Lib.hid hk2
      clear hk2 hp
      rcases h4 with rfl | rfl | rfl | rfl
      · have c0 : wr.cell? ⟨w.heap.size, 0, none⟩ = some (.int .u8 0) := hk.cell 0
        have f0 := hk.frozen 0
        have HV : Hid (b8v ((fourB x).getD 0 0) = .int .u8 ((x : Int) % 256)) := Lib.hid (congrArg (Value.int .u8) (by simp [fourB]))
        clear hk
        go_wp2
        go_roundw
        case rel => exact ⟨1, rfl, by omega, by rw [← HV.out]; exact HK2.out, HB.out.setCell (Nat.le_refl _) _⟩
        case measure => simp [intOf]
      · have c0 : wr.cell? ⟨w.heap.size, 1, none⟩ = some (.int .u8 0) := hk.cell 1
        have f0 := hk.frozen 1
        have HV : Hid (b8v ((fourB x).getD 1 0) = .int .u8 ((x : Int) / 256 % 256)) := Lib.hid (congrArg (Value.int .u8) (by simp [fourB]))
        clear hk
        go_wp2
        go_roundw
        case rel => exact ⟨2, rfl, by omega, by rw [← HV.out]; exact HK2.out, HB.out.setCell (Nat.le_refl _) _⟩
        case measure => simp [intOf]
      · have c0 : wr.cell? ⟨w.heap.size, 2, none⟩ = some (.int .u8 0) := hk.cell 2
        have f0 := hk.frozen 2
        have HV : Hid (b8v ((fourB x).getD 2 0) = .int .u8 ((x : Int) / 65536 % 256)) := Lib.hid (congrArg (Value.int .u8) (by simp [fourB]))
        clear hk
        go_wp2
        go_roundw
        case rel => exact ⟨3, rfl, by omega, by rw [← HV.out]; exact HK2.out, HB.out.setCell (Nat.le_refl _) _⟩
        case measure => simp [intOf]
      · have c0 : wr.cell? ⟨w.heap.size, 3, none⟩ = some (.int .u8 0) := hk.cell 3
        have f0 := hk.frozen 3
        have HV : Hid (b8v ((fourB x).getD 3 0) = .int .u8 ((x : Int) / 16777216)) := Lib.hid (congrArg (Value.int .u8) (by simp [fourB]; omega))
        clear hk
        go_wp2
        go_roundw
        case rel => exact ⟨4, rfl, by omega, by rw [← HV.out]; exact HK2.out, HB.out.setCell (Nat.le_refl _) _⟩
        case measure => simp [intOf]
    · obtain rfl : i = 4 := by omega
      have hlt : g < w.heap.size := (Array.getElem?_eq_some_iff.1 HG.out).1
      have hg4 : wr.heap[g]? = some (.cells cur.toArray 5 (0, 0)) := (hB.block g hlt).trans HG.out
      have HG4 := Lib.hid hg4
      have HB := Lib.hid hB
      have HSRC : Hid (∀ j v, ((fourB x).map b8v)[j]? = some v → wr.cell? ((⟨w.heap.size, 0, none⟩ : Addr).add j) = some v) := Lib.hid fun j v hv => by
        rw [addr_lit, Nat.zero_add, hk.cell]
        simpa [fpart, fourB] using hv
      have hl4 : ((fourB x).map b8v).length = 4 := by simp [fourB]
      clear hg4 hB hk
      go_wp2_with (refine wpList_copy_only rfl (.tmp 18) (.tmp 19) 22 22 rfl 5 Try.underlying22 (by kernel_rfl) _ _ _ _ _ _ rfl rfl g o cur 5 HG4.out ((fourB x).map b8v) (by rw [hl4]; show _ = min 4 n; omega) (fun h => ⟨rfl, _, rfl, HSRC.out⟩) (by rw [hl4]; omega) (one_b8 _) ?_; intro w4 HG5 HO5)
      go_ret
      refine ⟨?_, HG5.out, only_trans (only_of_below HB.out _) HO5.out⟩
      show Ending.returned (goInt ((fourB x).map b8v).length) = _
      rw [hl4]
      rfl
end Go.Proofs.Ytcddkcejjajlhaa
