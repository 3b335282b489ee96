/-
  The cells of a number and of a raw cell: how many there are, whatever the tables hold.
-/
import Derived.Test.YtllhcdkbgknjdaaShape
import Derived.Deep.RegionHeld3
namespace Go.Proofs.Ytllhcdkbgknjdaa
open Go.RowKit Go

theorem new_cells {w w2 : World} {g : Nat} {zs : List Nat} (hg : g = w2.heap.size) (hz : ∀ z ∈ zs, z < 4294967296) (hl : zs.length ≤ 2) (hB : Below w.heap.size w w2) :
    NewLen w zs.length (.returned (.slice (some ⟨g, 0, none⟩) zs.length zs.length)) (w2.alloc (.cells (zs.map u32v).toArray 24)) := by
  subst hg
  exact ⟨_, zs, rfl, rfl, hz, ⟨by simp, .inr ⟨w2.heap.size, zs.length, _, rfl, hB.size, heap_alloc_new _ _, Nat.le_refl _, by unfold maxLen; omega, by simp, by simp; exact List.take_of_length_le (by simp)⟩⟩, hB.alloc hB.size _⟩
theorem new_emp {w w2 : World} {g : Nat} (hg : g = w2.heap.size) (hB : Below w.heap.size w w2) : NewLen w 0 (.returned (.slice (some ⟨g, 0, none⟩) 0 0)) (w2.alloc (.cells #[] 24)) :=
  new_cells (zs := []) hg (fun _ hz => absurd hz List.not_mem_nil) (Nat.zero_le 2) hB
theorem new_one {w w2 : World} {g : Nat} {y : Int} (hg : g = w2.heap.size) (hy : ∃ m : Nat, y = (m : Int) ∧ m < 4294967296) (hB : Below w.heap.size w w2) :
    NewLen w 1 (.returned (.slice (some ⟨g, 0, none⟩) 1 1)) (w2.alloc (.cells #[.int .u32 y] 24)) := by
  obtain ⟨m, rfl, hm⟩ := hy
  exact new_cells (zs := [m]) hg (fun z hz => by rw [List.mem_singleton.1 hz]; exact hm) (Nat.le_succ 1) hB
theorem new_two {w w2 : World} {g : Nat} {y z : Int} (hg : g = w2.heap.size) (hy : ∃ m : Nat, y = (m : Int) ∧ m < 4294967296) (hz : ∃ m : Nat, z = (m : Int) ∧ m < 4294967296) (hB : Below w.heap.size w w2) :
    NewLen w 2 (.returned (.slice (some ⟨g, 0, none⟩) 2 2)) (w2.alloc (.cells #[.int .u32 y, .int .u32 z] 24)) := by
  obtain ⟨m, rfl, hm⟩ := hy
  obtain ⟨n, rfl, hn⟩ := hz
  exact new_cells (zs := [m, n]) hg (fun z hz => by
    rcases List.mem_cons.1 hz with h | h
    · rw [h]; exact hm
    · rw [List.mem_singleton.1 h]; exact hn) (Nat.le_refl 2) hB
theorem u32_some (x : Int) : ∃ n : Nat, IntKind.u32.wrap x = (n : Int) ∧ n < 4294967296 := ⟨(x % 4294967296).toNat, by rw [IntKind.wrap_u32]; omega, by omega⟩
theorem u32_mod (x : Int) : ∃ n : Nat, x % 4294967296 = (n : Int) ∧ n < 4294967296 := ⟨(x % 4294967296).toNat, by omega, by omega⟩

set_option maxHeartbeats 1000000 in
theorem raw_cells (k : Int) (r : Nat) (hr : r < 4294967296) (w : World) : Calls Try.prog 80 #[.agg #[.int .i64 k, .int .u32 r]] w (NewLen w 1) := by
  have HR := Lib.hid hr
  clear hr
  go_enter Try.func80, Try.ntmps80
  go_wp2_with fail
  go_ret
  exact new_one (by simp) ⟨r, rfl, HR.out⟩ ((Below.refl _ _).alloc (Nat.le_refl _) _)
set_option maxHeartbeats 1000000 in
theorem widetag_any (k n : Int) (hx : Bool) (w : World) : Calls Try.prog 77 #[.agg #[.int .i64 k, .int .i32 n, .bool hx]] w fun e w' => (∃ x : Nat, e = .returned (.int .u32 x) ∧ x < 4294967296) ∧ Below w.heap.size w w' := by
  by_cases h : k = 7
  · have h7 : (k == 7) = true := by simpa using h
    clear h
    go_enter Try.func77, Try.ntmps77
    go_wp2_with fail
    go_ret
    exact ⟨⟨2, rfl, by omega⟩, (Below.refl _ _).alloc (Nat.le_refl _) _⟩
  · have h7 : (k == 7) = false := by simpa using h
    clear h
    go_enter Try.func77, Try.ntmps77
    go_wp2_with fail
    go_ret
    exact ⟨⟨5, rfl, by omega⟩, (Below.refl _ _).alloc (Nat.le_refl _) _⟩
end Go.Proofs.Ytllhcdkbgknjdaa
