/-
  The cells of a number: how many there are, whatever the tables hold.
-/
import Derived.Test.YtllhcdkbgknjdaaCellsNum
namespace Go.Proofs.Ytllhcdkbgknjdaa
open Go.RowKit Go

theorem num_box {w w' : World} {k n : Int} {hx : Bool} {t : TypeId} (hB : Below (w.heap.size + 1) (w.alloc (.cells #[.int .i64 k, .int .i32 n, .bool hx] t)) w') :
    w'.cell? ⟨w.heap.size, 0, none⟩ = some (.int .i64 k) ∧ w'.cell? ⟨w.heap.size, 1, none⟩ = some (.int .i32 n) ∧ w'.cell? ⟨w.heap.size, 2, none⟩ = some (.bool hx) ∧ Below w.heap.size w w' := by
  have h := (Blk.new w t #[.int .i64 k, .int .i32 n, .bool hx]).below hB (by omega)
  exact ⟨h.cell 0, h.cell 1, h.cell 2, ((Below.refl _ _).alloc (Nat.le_refl _) _).trans (hB.mono (by omega))⟩
theorem num_keep {w W w2 : World} {k n : Int} {hx : Bool} {t : TypeId} (h1 : Below (w.heap.size + 1) (w.alloc (.cells #[.int .i64 k, .int .i32 n, .bool hx] t)) W) (h2 : Below W.heap.size W w2) :
    w2.cell? ⟨w.heap.size, 0, none⟩ = some (.int .i64 k) ∧ w2.cell? ⟨w.heap.size, 1, none⟩ = some (.int .i32 n) ∧ w2.cell? ⟨w.heap.size, 2, none⟩ = some (.bool hx) ∧ Below w.heap.size w w2 :=
  num_box (h1.trans (h2.mono (by have := h1.size; simp at this; omega)))

theorem num3 {a b c d : Prop} (h : a ∧ b ∧ c ∧ d) : a ∧ b ∧ c := ⟨h.1, h.2.1, h.2.2.1⟩

set_option maxHeartbeats 2000000 in
theorem number_narrow (k n : Int) (hx : Bool) (h0 : 0 ≤ k) (h1 : k ≤ 9) (hn1 : -67108864 ≤ n) (hn2 : n ≤ 67108863) (w : World) (hcs : TabsAny w) : Calls Try.prog 75 #[.agg #[.int .i64 k, .int .i32 n, .bool hx]] w (NewLen w 1) := by
  have HT : Hid (∀ W, Below w.heap.size w W → Calls Try.prog 61 #[.agg #[.int .i64 k]] W fun e w' => (∃ x : Nat, e = .returned (.int .u32 x) ∧ x < 4294967296) ∧ Below W.heap.size W w') := Lib.hid fun W hb => tag_any k h0 h1 W (hcs.below hb)
  clear hcs h0 h1
  cases hx with
  | true =>
    go_enter Try.func75, Try.ntmps75
    go_wp2_with fail
    have hbx : Below (w.heap.size + 1) (w.alloc (.cells #[.int .i64 k, .int .i32 n, .bool true] 64)) (w.alloc (.cells #[.int .i64 k, .int .i32 n, .bool true] 64)).drew := (Below.refl _ _).drew
    have HBX := Lib.hid hbx
    clear hbx
    go_region_held3 (fun w' => w'.cell? ⟨w.heap.size, 0, none⟩ = some (.int .i64 k) ∧ w'.cell? ⟨w.heap.size, 1, none⟩ = some (.int .i32 n) ∧ w'.cell? ⟨w.heap.size, 2, none⟩ = some (.bool true)) (first | exact num3 (num_box HBX.out) | go_keep | exact num3 (num_keep HBX.out hb2)) (first | (go_at_call 61; refine (HT.out _ (num_box HBX.out).2.2.2).mono ?_; rintro e w2 ⟨⟨x, rfl, hx⟩, hb2⟩))
    go_wp2
    go_ret
    exact new_one rfl (or_nat _ _) (num_keep HBX.out hb2).2.2.2
  | false =>
    go_enter Try.func75, Try.ntmps75
    go_wp2_with fail
    have hbx : Below (w.heap.size + 1) (w.alloc (.cells #[.int .i64 k, .int .i32 n, .bool false] 64)) (w.alloc (.cells #[.int .i64 k, .int .i32 n, .bool false] 64)).drew := (Below.refl _ _).drew
    have HBX := Lib.hid hbx
    clear hbx
    go_region_held3 (fun w' => w'.cell? ⟨w.heap.size, 0, none⟩ = some (.int .i64 k) ∧ w'.cell? ⟨w.heap.size, 1, none⟩ = some (.int .i32 n) ∧ w'.cell? ⟨w.heap.size, 2, none⟩ = some (.bool false)) (first | exact num3 (num_box HBX.out) | go_keep | exact num3 (num_keep HBX.out hb2)) (first | (go_at_call 61; refine (HT.out _ (num_box HBX.out).2.2.2).mono ?_; rintro e w2 ⟨⟨x, rfl, hx⟩, hb2⟩))
    go_wp2
    go_ret
    exact new_one rfl (or_nat _ _) (num_keep HBX.out hb2).2.2.2

set_option maxHeartbeats 2000000 in
theorem number_wide (k n : Int) (hx : Bool) (hn : n < -67108864 ∨ 67108863 < n) (w : World) : Calls Try.prog 75 #[.agg #[.int .i64 k, .int .i32 n, .bool hx]] w (NewLen w 2) := by
  have HT : Hid (∀ W, Calls Try.prog 77 #[.agg #[.int .i64 k, .int .i32 n, .bool hx]] W fun e w' => (∃ x : Nat, e = .returned (.int .u32 x) ∧ x < 4294967296) ∧ Below W.heap.size W w') := Lib.hid fun W => widetag_any k n hx W
  rcases hn with hn | hn
  · cases hx with
    | true =>
      go_enter Try.func75, Try.ntmps75
      go_wp2_with fail
      have hbx : Below (w.heap.size + 1) (w.alloc (.cells #[.int .i64 k, .int .i32 n, .bool true] 64)) (w.alloc (.cells #[.int .i64 k, .int .i32 n, .bool true] 64)).drew := (Below.refl _ _).drew
      have HBX := Lib.hid hbx
      clear hbx
      go_region_held3 (fun w' => w'.cell? ⟨w.heap.size, 0, none⟩ = some (.int .i64 k) ∧ w'.cell? ⟨w.heap.size, 1, none⟩ = some (.int .i32 n) ∧ w'.cell? ⟨w.heap.size, 2, none⟩ = some (.bool true)) (first | exact num3 (num_box HBX.out) | go_keep | exact num3 (num_keep HBX.out hb2)) (first | (go_at_call 77; refine (HT.out _).mono ?_; rintro e w2 ⟨⟨x, rfl, hx⟩, hb2⟩))
      go_wp2
      go_ret
      exact new_two rfl (or_nat _ _) (u32_some _) (num_keep HBX.out hb2).2.2.2
    | false =>
      go_enter Try.func75, Try.ntmps75
      go_wp2_with fail
      have hbx : Below (w.heap.size + 1) (w.alloc (.cells #[.int .i64 k, .int .i32 n, .bool false] 64)) (w.alloc (.cells #[.int .i64 k, .int .i32 n, .bool false] 64)).drew := (Below.refl _ _).drew
      have HBX := Lib.hid hbx
      clear hbx
      go_region_held3 (fun w' => w'.cell? ⟨w.heap.size, 0, none⟩ = some (.int .i64 k) ∧ w'.cell? ⟨w.heap.size, 1, none⟩ = some (.int .i32 n) ∧ w'.cell? ⟨w.heap.size, 2, none⟩ = some (.bool false)) (first | exact num3 (num_box HBX.out) | go_keep | exact num3 (num_keep HBX.out hb2)) (first | (go_at_call 77; refine (HT.out _).mono ?_; rintro e w2 ⟨⟨x, rfl, hx⟩, hb2⟩))
      go_wp2
      go_ret
      exact new_two rfl (or_nat _ _) (u32_some _) (num_keep HBX.out hb2).2.2.2
  · have hn2 : -67108864 ≤ n := by omega
    cases hx with
    | true =>
      go_enter Try.func75, Try.ntmps75
      go_wp2_with fail
      have hbx : Below (w.heap.size + 1) (w.alloc (.cells #[.int .i64 k, .int .i32 n, .bool true] 64)) (w.alloc (.cells #[.int .i64 k, .int .i32 n, .bool true] 64)).drew := (Below.refl _ _).drew
      have HBX := Lib.hid hbx
      clear hbx
      go_region_held3 (fun w' => w'.cell? ⟨w.heap.size, 0, none⟩ = some (.int .i64 k) ∧ w'.cell? ⟨w.heap.size, 1, none⟩ = some (.int .i32 n) ∧ w'.cell? ⟨w.heap.size, 2, none⟩ = some (.bool true)) (first | exact num3 (num_box HBX.out) | go_keep | exact num3 (num_keep HBX.out hb2)) (first | (go_at_call 77; refine (HT.out _).mono ?_; rintro e w2 ⟨⟨x, rfl, hx⟩, hb2⟩))
      go_wp2
      go_ret
      exact new_two rfl (or_nat _ _) (u32_some _) (num_keep HBX.out hb2).2.2.2
    | false =>
      go_enter Try.func75, Try.ntmps75
      go_wp2_with fail
      have hbx : Below (w.heap.size + 1) (w.alloc (.cells #[.int .i64 k, .int .i32 n, .bool false] 64)) (w.alloc (.cells #[.int .i64 k, .int .i32 n, .bool false] 64)).drew := (Below.refl _ _).drew
      have HBX := Lib.hid hbx
      clear hbx
      go_region_held3 (fun w' => w'.cell? ⟨w.heap.size, 0, none⟩ = some (.int .i64 k) ∧ w'.cell? ⟨w.heap.size, 1, none⟩ = some (.int .i32 n) ∧ w'.cell? ⟨w.heap.size, 2, none⟩ = some (.bool false)) (first | exact num3 (num_box HBX.out) | go_keep | exact num3 (num_keep HBX.out hb2)) (first | (go_at_call 77; refine (HT.out _).mono ?_; rintro e w2 ⟨⟨x, rfl, hx⟩, hb2⟩))
      go_wp2
      go_ret
      exact new_two rfl (or_nat _ _) (u32_some _) (num_keep HBX.out hb2).2.2.2
end Go.Proofs.Ytllhcdkbgknjdaa
