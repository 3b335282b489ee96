/-
  What would have to stand first, by the first tag, more than one cell.
  What would have to stand first, by the first tag, more than one cell, the higher tags.
  What would have to stand first, by the first tag, whatever it is.
  An item is stored in a block of its own.
-/
import Derived.Test.YtllhcdkbgknjdaaDoorOP5
import Derived.Test.YtllhcdkbgknjdaaDoorOP3
namespace Go.Proofs.YtllhcdkbgknjdaaDoor
open Go.RowKit Go

set_option maxRecDepth 100000 in
set_option maxHeartbeats 4000000 in
theorem guess_0b (tg : Nat → Nat) (v : Value) (x y : Nat) (r : List Nat) (hx : ∀ c ∈ (x :: y :: r), c < 4294967296) (hl : (x :: y :: r).length ≤ 64) (w : World) (hv : RdC w v (x :: y :: r)) (hcs : TabsT tg w)
    (ht : x % 16 = 0) : Calls Tryd.prog 69 #[v] w (GuessEnd w (x :: y :: r)) := by
  obtain ⟨a, cap, rfl, hcap, hab, hcell⟩ := hv.first (List.cons_ne_nil _ _)
  have _ := hl
  have hc0 : w.cell? (a.add 0) = some (.int .u32 (x : Int)) := hcell 0 (by simp)
  have hx0 := hx x (by simp)
  have hand := and15 hx0
  rw [ht] at hand
  have hand16 := and16 hx0
  have hc1 : w.cell? { block := a.block, off := a.off + 1 } = some (.int .u32 (y : Int)) := hcell 1 (by simp)
  have hx1 := hx y (by simp)
  have hgs : guessC (x :: y :: r) = (rawIt x, 1) := by
    unfold guessC
    simp only [List.getD_cons_zero, List.getD_cons_succ, ht]
    simp [kindT]
  unfold GuessEnd
  rw [hgs]
  have hk := hcs.kinds.cell 0 (by decide)
  change w.cell? ⟨0, 0, none⟩ = some (.int .i64 0) at hk
  have hkl := lt_of_cell_tab hk
  have hL2 : 2 ≤ (x :: y :: r).length := by simp
  obtain ⟨L, hL⟩ : ∃ L, (x :: y :: r).length = L := ⟨_, rfl⟩
  rw [hL] at hcap hL2 hl ⊢
  have jl : (1 : Int) < (L : Int) := by omega
  have j0i : (0 : Int) < (L : Int) := by omega
  have HE : Hid (∀ W, Below w.heap.size w W → (Ending.returned (.tuple #[.iface 114 (.agg #[.int .i64 0, .int .u32 (x : Int)]), .int .i64 1]) = Ending.returned (.tuple #[shapeV (rawIt x), .int .i64 ((1 : Nat) : Int)]) ∧ Below w.heap.size w W)) := Lib.hid (fun W h => ⟨rfl, h⟩)
  clear hgs hcell hx ht hv
  have cc0 : w.cell? a = some (.int .u32 (x : Int)) := hc0
  clear hcs hc0
  go_enter Tryd.func69, Tryd.ntmps69
  go_wp2_with fail
  go_ret2
  exact HE.out _ ((Below.refl _ _).alloc (Nat.le_refl _) _)

set_option maxRecDepth 100000 in
set_option maxHeartbeats 4000000 in
theorem guess_1b (tg : Nat → Nat) (v : Value) (x y : Nat) (r : List Nat) (hx : ∀ c ∈ (x :: y :: r), c < 4294967296) (hl : (x :: y :: r).length ≤ 64) (w : World) (hv : RdC w v (x :: y :: r)) (hcs : TabsT tg w)
    (ht : x % 16 = 1) : Calls Tryd.prog 69 #[v] w (GuessEnd w (x :: y :: r)) := by
  obtain ⟨a, cap, rfl, hcap, hab, hcell⟩ := hv.first (List.cons_ne_nil _ _)
  have _ := hl
  have hc0 : w.cell? (a.add 0) = some (.int .u32 (x : Int)) := hcell 0 (by simp)
  have hx0 := hx x (by simp)
  have hand := and15 hx0
  rw [ht] at hand
  have hand16 := and16 hx0
  have hc1 : w.cell? { block := a.block, off := a.off + 1 } = some (.int .u32 (y : Int)) := hcell 1 (by simp)
  have hx1 := hx y (by simp)
  have hgs : guessC (x :: y :: r) = (⟨1, ⟨(unpacked (((x :: y :: r).take (spanC (x :: y :: r))).map (· / 16))).toArray⟩, 0, false, 0⟩, spanC (x :: y :: r)) := by
    unfold guessC
    simp only [List.getD_cons_zero, List.getD_cons_succ, ht]
    simp [kindT]
  unfold GuessEnd
  rw [hgs]
  have hk := hcs.kinds.cell 1 (by decide)
  change w.cell? ⟨0, 1, none⟩ = some (.int .i64 1) at hk
  have hkl := lt_of_cell_tab hk
  have HNS := Lib.hid (fun W (hb : Below w.heap.size w W) => namespan_any _ (x :: y :: r) hx (List.cons_ne_nil _ _) W (hv.below hb).1)
  have hsl := spanC_le (List.cons_ne_nil x (y :: r))
  have HTK := Lib.hid (hv.take (spanC (x :: y :: r)) hsl)
  have htl : ((x :: y :: r).take (spanC (x :: y :: r))).length ≤ 64 := by rw [List.length_take]; omega
  have HNI := Lib.hid (fun W (hb : Below w.heap.size w W) => namein_any _ ((x :: y :: r).take (spanC (x :: y :: r))) (fun c h => hx c (List.mem_of_mem_take h)) htl W ((HTK.out.below hb).1) (hcs.below hb).codes)
  obtain ⟨nm, hnm⟩ : ∃ nm : ByteArray, (⟨(unpacked (((x :: y :: r).take (spanC (x :: y :: r))).map (· / 16))).toArray⟩ : ByteArray) = nm := ⟨_, rfl⟩
  rw [hnm] at HNI ⊢
  obtain ⟨s, hs⟩ : ∃ s, spanC (x :: y :: r) = s := ⟨_, rfl⟩
  rw [hs] at HNS HNI hsl ⊢
  have hsi : (s : Int) ≤ (cap : Int) := by omega
  clear hnm hs HTK htl
  have hL2 : 2 ≤ (x :: y :: r).length := by simp
  obtain ⟨L, hL⟩ : ∃ L, (x :: y :: r).length = L := ⟨_, rfl⟩
  rw [hL] at hcap hL2 hl HNS hsl ⊢
  have jl : (1 : Int) < (L : Int) := by omega
  have j0i : (0 : Int) < (L : Int) := by omega
  have HE : Hid (∀ W, Below w.heap.size w W → (Ending.returned (.tuple #[.iface 108 (.agg #[.int .i64 1, .string nm]), .int .i64 (s : Int)]) = Ending.returned (.tuple #[shapeV ⟨1, nm, 0, false, 0⟩, .int .i64 ((s : Nat) : Int)]) ∧ Below w.heap.size w W)) := Lib.hid (fun W h => ⟨rfl, h⟩)
  clear hgs hcell hx ht hv
  have cc0 : w.cell? a = some (.int .u32 (x : Int)) := hc0
  clear hcs hc0
  go_enter Tryd.func69, Tryd.ntmps69
  go_wp2_with fail
  refine (HNS.out _ ((Below.refl _ _).alloc (Nat.le_refl _) _)).mono ?_
  rintro e w' ⟨rfl, rfl⟩
  have HBX : Hid (Below (w.heap.size + 1) (w.alloc (.cells #[.int .i64 1] 104)) (w.alloc (.cells #[.int .i64 1] 104)).drew) := Lib.hid (Below.refl _ _).drew
  go_wp2_with fail
  go_region_held3 (fun w' => w'.cell? ⟨w.heap.size, 0, none⟩ = some (.int .i64 1)) (first | exact (paint_box HBX.out).1 | go_keep | exact (paint_box (HBX.out.trans (hb2.mono (by simp)))).1) (first | (go_at_call 81; refine (HNI.out _ (paint_box HBX.out).2).mono ?_; rintro e w2 ⟨rfl, hb2⟩))
  go_wp2_with fail
  go_ret2
  exact HE.out _ (paint_box (HBX.out.trans (hb2.mono (by simp)))).2

set_option maxRecDepth 100000 in
set_option maxHeartbeats 4000000 in
theorem guess_2b (tg : Nat → Nat) (v : Value) (x y : Nat) (r : List Nat) (hx : ∀ c ∈ (x :: y :: r), c < 4294967296) (hl : (x :: y :: r).length ≤ 64) (w : World) (hv : RdC w v (x :: y :: r)) (hcs : TabsT tg w)
    (ht : x % 16 = 2) : Calls Tryd.prog 69 #[v] w (GuessEnd w (x :: y :: r)) := by
  obtain ⟨a, cap, rfl, hcap, hab, hcell⟩ := hv.first (List.cons_ne_nil _ _)
  have _ := hl
  have hc0 : w.cell? (a.add 0) = some (.int .u32 (x : Int)) := hcell 0 (by simp)
  have hx0 := hx x (by simp)
  have hand := and15 hx0
  rw [ht] at hand
  have hand16 := and16 hx0
  have hc1 : w.cell? { block := a.block, off := a.off + 1 } = some (.int .u32 (y : Int)) := hcell 1 (by simp)
  have hx1 := hx y (by simp)
  have hgs : guessC (x :: y :: r) = (⟨7, noText, sgn y, decide (x / 16 % 2 = 1), 0⟩, 2) := by
    unfold guessC
    simp only [List.getD_cons_zero, List.getD_cons_succ, ht]
    simp [kindT]
  unfold GuessEnd
  rw [hgs]
  have hk := hcs.kinds.cell 2 (by decide)
  change w.cell? ⟨0, 2, none⟩ = some (.int .i64 7) at hk
  have hkl := lt_of_cell_tab hk
  have hsg := i32_sgn hx1
  obtain ⟨z, hz⟩ : ∃ z, sgn y = z := ⟨_, rfl⟩
  rw [hz] at hsg ⊢
  clear hz
  obtain ⟨hb, hhb⟩ : ∃ b, decide (x / 16 % 2 = 1) = b := ⟨_, rfl⟩
  rw [hhb] at hand16 ⊢
  clear hhb
  have hL2 : 2 ≤ (x :: y :: r).length := by simp
  obtain ⟨L, hL⟩ : ∃ L, (x :: y :: r).length = L := ⟨_, rfl⟩
  rw [hL] at hcap hL2 hl ⊢
  have jl : (1 : Int) < (L : Int) := by omega
  have j0i : (0 : Int) < (L : Int) := by omega
  have HE : Hid (∀ W, Below w.heap.size w W → (Ending.returned (.tuple #[.iface 110 (.agg #[.int .i64 7, .int .i32 z, .bool hb]), .int .i64 2]) = Ending.returned (.tuple #[shapeV ⟨7, noText, z, hb, 0⟩, .int .i64 ((2 : Nat) : Int)]) ∧ Below w.heap.size w W)) := Lib.hid (fun W h => ⟨rfl, h⟩)
  clear hgs hcell hx ht hv
  have cc0 : w.cell? a = some (.int .u32 (x : Int)) := hc0
  clear hcs hc0
  go_enter Tryd.func69, Tryd.ntmps69
  go_wp2_with fail
  go_ret2
  exact HE.out _ ((Below.refl _ _).alloc (Nat.le_refl _) _)

set_option maxRecDepth 100000 in
set_option maxHeartbeats 4000000 in
theorem guess_3b (tg : Nat → Nat) (v : Value) (x y : Nat) (r : List Nat) (hx : ∀ c ∈ (x :: y :: r), c < 4294967296) (hl : (x :: y :: r).length ≤ 64) (w : World) (hv : RdC w v (x :: y :: r)) (hcs : TabsT tg w)
    (ht : x % 16 = 3) : Calls Tryd.prog 69 #[v] w (GuessEnd w (x :: y :: r)) := by
  obtain ⟨a, cap, rfl, hcap, hab, hcell⟩ := hv.first (List.cons_ne_nil _ _)
  have _ := hl
  have hc0 : w.cell? (a.add 0) = some (.int .u32 (x : Int)) := hcell 0 (by simp)
  have hx0 := hx x (by simp)
  have hand := and15 hx0
  rw [ht] at hand
  have hand16 := and16 hx0
  have hc1 : w.cell? { block := a.block, off := a.off + 1 } = some (.int .u32 (y : Int)) := hcell 1 (by simp)
  have hx1 := hx y (by simp)
  have hgs : guessC (x :: y :: r) = (⟨2, ⟨(unpacked (((x :: y :: r).take (spanC (x :: y :: r))).map (· / 16))).toArray⟩, 0, false, 0⟩, spanC (x :: y :: r)) := by
    unfold guessC
    simp only [List.getD_cons_zero, List.getD_cons_succ, ht]
    simp [kindT]
  unfold GuessEnd
  rw [hgs]
  have hk := hcs.kinds.cell 3 (by decide)
  change w.cell? ⟨0, 3, none⟩ = some (.int .i64 2) at hk
  have hkl := lt_of_cell_tab hk
  have HNS := Lib.hid (fun W (hb : Below w.heap.size w W) => namespan_any _ (x :: y :: r) hx (List.cons_ne_nil _ _) W (hv.below hb).1)
  have hsl := spanC_le (List.cons_ne_nil x (y :: r))
  have HTK := Lib.hid (hv.take (spanC (x :: y :: r)) hsl)
  have htl : ((x :: y :: r).take (spanC (x :: y :: r))).length ≤ 64 := by rw [List.length_take]; omega
  have HNI := Lib.hid (fun W (hb : Below w.heap.size w W) => namein_any _ ((x :: y :: r).take (spanC (x :: y :: r))) (fun c h => hx c (List.mem_of_mem_take h)) htl W ((HTK.out.below hb).1) (hcs.below hb).codes)
  obtain ⟨nm, hnm⟩ : ∃ nm : ByteArray, (⟨(unpacked (((x :: y :: r).take (spanC (x :: y :: r))).map (· / 16))).toArray⟩ : ByteArray) = nm := ⟨_, rfl⟩
  rw [hnm] at HNI ⊢
  obtain ⟨s, hs⟩ : ∃ s, spanC (x :: y :: r) = s := ⟨_, rfl⟩
  rw [hs] at HNS HNI hsl ⊢
  have hsi : (s : Int) ≤ (cap : Int) := by omega
  clear hnm hs HTK htl
  have hL2 : 2 ≤ (x :: y :: r).length := by simp
  obtain ⟨L, hL⟩ : ∃ L, (x :: y :: r).length = L := ⟨_, rfl⟩
  rw [hL] at hcap hL2 hl HNS hsl ⊢
  have jl : (1 : Int) < (L : Int) := by omega
  have j0i : (0 : Int) < (L : Int) := by omega
  have HE : Hid (∀ W, Below w.heap.size w W → (Ending.returned (.tuple #[.iface 108 (.agg #[.int .i64 2, .string nm]), .int .i64 (s : Int)]) = Ending.returned (.tuple #[shapeV ⟨2, nm, 0, false, 0⟩, .int .i64 ((s : Nat) : Int)]) ∧ Below w.heap.size w W)) := Lib.hid (fun W h => ⟨rfl, h⟩)
  clear hgs hcell hx ht hv
  have cc0 : w.cell? a = some (.int .u32 (x : Int)) := hc0
  clear hcs hc0
  go_enter Tryd.func69, Tryd.ntmps69
  go_wp2_with fail
  refine (HNS.out _ ((Below.refl _ _).alloc (Nat.le_refl _) _)).mono ?_
  rintro e w' ⟨rfl, rfl⟩
  have HBX : Hid (Below (w.heap.size + 1) (w.alloc (.cells #[.int .i64 2] 104)) (w.alloc (.cells #[.int .i64 2] 104)).drew) := Lib.hid (Below.refl _ _).drew
  go_wp2_with fail
  go_region_held3 (fun w' => w'.cell? ⟨w.heap.size, 0, none⟩ = some (.int .i64 2)) (first | exact (paint_box HBX.out).1 | go_keep | exact (paint_box (HBX.out.trans (hb2.mono (by simp)))).1) (first | (go_at_call 81; refine (HNI.out _ (paint_box HBX.out).2).mono ?_; rintro e w2 ⟨rfl, hb2⟩))
  go_wp2_with fail
  go_ret2
  exact HE.out _ (paint_box (HBX.out.trans (hb2.mono (by simp)))).2

set_option maxRecDepth 100000 in
set_option maxHeartbeats 4000000 in
theorem guess_4b (tg : Nat → Nat) (v : Value) (x y : Nat) (r : List Nat) (hx : ∀ c ∈ (x :: y :: r), c < 4294967296) (hl : (x :: y :: r).length ≤ 64) (w : World) (hv : RdC w v (x :: y :: r)) (hcs : TabsT tg w)
    (ht : x % 16 = 4) : Calls Tryd.prog 69 #[v] w (GuessEnd w (x :: y :: r)) := by
  obtain ⟨a, cap, rfl, hcap, hab, hcell⟩ := hv.first (List.cons_ne_nil _ _)
  have _ := hl
  have hc0 : w.cell? (a.add 0) = some (.int .u32 (x : Int)) := hcell 0 (by simp)
  have hx0 := hx x (by simp)
  have hand := and15 hx0
  rw [ht] at hand
  have hand16 := and16 hx0
  have hc1 : w.cell? { block := a.block, off := a.off + 1 } = some (.int .u32 (y : Int)) := hcell 1 (by simp)
  have hx1 := hx y (by simp)
  have hgs : guessC (x :: y :: r) = (⟨3, ⟨(unpacked (((x :: y :: r).take (spanC (x :: y :: r))).map (· / 16))).toArray⟩, 0, false, 0⟩, spanC (x :: y :: r)) := by
    unfold guessC
    simp only [List.getD_cons_zero, List.getD_cons_succ, ht]
    simp [kindT]
  unfold GuessEnd
  rw [hgs]
  have hk := hcs.kinds.cell 4 (by decide)
  change w.cell? ⟨0, 4, none⟩ = some (.int .i64 3) at hk
  have hkl := lt_of_cell_tab hk
  have HNS := Lib.hid (fun W (hb : Below w.heap.size w W) => namespan_any _ (x :: y :: r) hx (List.cons_ne_nil _ _) W (hv.below hb).1)
  have hsl := spanC_le (List.cons_ne_nil x (y :: r))
  have HTK := Lib.hid (hv.take (spanC (x :: y :: r)) hsl)
  have htl : ((x :: y :: r).take (spanC (x :: y :: r))).length ≤ 64 := by rw [List.length_take]; omega
  have HNI := Lib.hid (fun W (hb : Below w.heap.size w W) => namein_any _ ((x :: y :: r).take (spanC (x :: y :: r))) (fun c h => hx c (List.mem_of_mem_take h)) htl W ((HTK.out.below hb).1) (hcs.below hb).codes)
  obtain ⟨nm, hnm⟩ : ∃ nm : ByteArray, (⟨(unpacked (((x :: y :: r).take (spanC (x :: y :: r))).map (· / 16))).toArray⟩ : ByteArray) = nm := ⟨_, rfl⟩
  rw [hnm] at HNI ⊢
  obtain ⟨s, hs⟩ : ∃ s, spanC (x :: y :: r) = s := ⟨_, rfl⟩
  rw [hs] at HNS HNI hsl ⊢
  have hsi : (s : Int) ≤ (cap : Int) := by omega
  clear hnm hs HTK htl
  have hL2 : 2 ≤ (x :: y :: r).length := by simp
  obtain ⟨L, hL⟩ : ∃ L, (x :: y :: r).length = L := ⟨_, rfl⟩
  rw [hL] at hcap hL2 hl HNS hsl ⊢
  have jl : (1 : Int) < (L : Int) := by omega
  have j0i : (0 : Int) < (L : Int) := by omega
  have HE : Hid (∀ W, Below w.heap.size w W → (Ending.returned (.tuple #[.iface 108 (.agg #[.int .i64 3, .string nm]), .int .i64 (s : Int)]) = Ending.returned (.tuple #[shapeV ⟨3, nm, 0, false, 0⟩, .int .i64 ((s : Nat) : Int)]) ∧ Below w.heap.size w W)) := Lib.hid (fun W h => ⟨rfl, h⟩)
  clear hgs hcell hx ht hv
  have cc0 : w.cell? a = some (.int .u32 (x : Int)) := hc0
  clear hcs hc0
  go_enter Tryd.func69, Tryd.ntmps69
  go_wp2_with fail
  refine (HNS.out _ ((Below.refl _ _).alloc (Nat.le_refl _) _)).mono ?_
  rintro e w' ⟨rfl, rfl⟩
  have HBX : Hid (Below (w.heap.size + 1) (w.alloc (.cells #[.int .i64 3] 104)) (w.alloc (.cells #[.int .i64 3] 104)).drew) := Lib.hid (Below.refl _ _).drew
  go_wp2_with fail
  go_region_held3 (fun w' => w'.cell? ⟨w.heap.size, 0, none⟩ = some (.int .i64 3)) (first | exact (paint_box HBX.out).1 | go_keep | exact (paint_box (HBX.out.trans (hb2.mono (by simp)))).1) (first | (go_at_call 81; refine (HNI.out _ (paint_box HBX.out).2).mono ?_; rintro e w2 ⟨rfl, hb2⟩))
  go_wp2_with fail
  go_ret2
  exact HE.out _ (paint_box (HBX.out.trans (hb2.mono (by simp)))).2

set_option maxRecDepth 100000 in
set_option maxHeartbeats 4000000 in
theorem guess_5b (tg : Nat → Nat) (v : Value) (x y : Nat) (r : List Nat) (hx : ∀ c ∈ (x :: y :: r), c < 4294967296) (hl : (x :: y :: r).length ≤ 64) (w : World) (hv : RdC w v (x :: y :: r)) (hcs : TabsT tg w)
    (ht : x % 16 = 5) : Calls Tryd.prog 69 #[v] w (GuessEnd w (x :: y :: r)) := by
  obtain ⟨a, cap, rfl, hcap, hab, hcell⟩ := hv.first (List.cons_ne_nil _ _)
  have _ := hl
  have hc0 : w.cell? (a.add 0) = some (.int .u32 (x : Int)) := hcell 0 (by simp)
  have hx0 := hx x (by simp)
  have hand := and15 hx0
  rw [ht] at hand
  have hand16 := and16 hx0
  have hc1 : w.cell? { block := a.block, off := a.off + 1 } = some (.int .u32 (y : Int)) := hcell 1 (by simp)
  have hx1 := hx y (by simp)
  have hgs : guessC (x :: y :: r) = (⟨8, noText, sgn y, decide (x / 16 % 2 = 1), 0⟩, 2) := by
    unfold guessC
    simp only [List.getD_cons_zero, List.getD_cons_succ, ht]
    simp [kindT]
  unfold GuessEnd
  rw [hgs]
  have hk := hcs.kinds.cell 5 (by decide)
  change w.cell? ⟨0, 5, none⟩ = some (.int .i64 8) at hk
  have hkl := lt_of_cell_tab hk
  have hsg := i32_sgn hx1
  obtain ⟨z, hz⟩ : ∃ z, sgn y = z := ⟨_, rfl⟩
  rw [hz] at hsg ⊢
  clear hz
  obtain ⟨hb, hhb⟩ : ∃ b, decide (x / 16 % 2 = 1) = b := ⟨_, rfl⟩
  rw [hhb] at hand16 ⊢
  clear hhb
  have hL2 : 2 ≤ (x :: y :: r).length := by simp
  obtain ⟨L, hL⟩ : ∃ L, (x :: y :: r).length = L := ⟨_, rfl⟩
  rw [hL] at hcap hL2 hl ⊢
  have jl : (1 : Int) < (L : Int) := by omega
  have j0i : (0 : Int) < (L : Int) := by omega
  have HE : Hid (∀ W, Below w.heap.size w W → (Ending.returned (.tuple #[.iface 110 (.agg #[.int .i64 8, .int .i32 z, .bool hb]), .int .i64 2]) = Ending.returned (.tuple #[shapeV ⟨8, noText, z, hb, 0⟩, .int .i64 ((2 : Nat) : Int)]) ∧ Below w.heap.size w W)) := Lib.hid (fun W h => ⟨rfl, h⟩)
  clear hgs hcell hx ht hv
  have cc0 : w.cell? a = some (.int .u32 (x : Int)) := hc0
  clear hcs hc0
  go_enter Tryd.func69, Tryd.ntmps69
  go_wp2_with fail
  go_ret2
  exact HE.out _ ((Below.refl _ _).alloc (Nat.le_refl _) _)

set_option maxRecDepth 100000 in
set_option maxHeartbeats 4000000 in
theorem guess_6b (tg : Nat → Nat) (v : Value) (x y : Nat) (r : List Nat) (hx : ∀ c ∈ (x :: y :: r), c < 4294967296) (hl : (x :: y :: r).length ≤ 64) (w : World) (hv : RdC w v (x :: y :: r)) (hcs : TabsT tg w)
    (ht : x % 16 = 6) : Calls Tryd.prog 69 #[v] w (GuessEnd w (x :: y :: r)) := by
  obtain ⟨a, cap, rfl, hcap, hab, hcell⟩ := hv.first (List.cons_ne_nil _ _)
  have _ := hl
  have hc0 : w.cell? (a.add 0) = some (.int .u32 (x : Int)) := hcell 0 (by simp)
  have hx0 := hx x (by simp)
  have hand := and15 hx0
  rw [ht] at hand
  have hand16 := and16 hx0
  have hc1 : w.cell? { block := a.block, off := a.off + 1 } = some (.int .u32 (y : Int)) := hcell 1 (by simp)
  have hx1 := hx y (by simp)
  have hgs : guessC (x :: y :: r) = (⟨8, noText, sgn x / 32, decide (x / 16 % 2 = 1), 0⟩, 1) := by
    unfold guessC
    simp only [List.getD_cons_zero, List.getD_cons_succ, ht]
    simp [kindT]
  unfold GuessEnd
  rw [hgs]
  have hk := hcs.kinds.cell 6 (by decide)
  change w.cell? ⟨0, 6, none⟩ = some (.int .i64 8) at hk
  have hkl := lt_of_cell_tab hk
  have hsg := i32_sgn hx0
  obtain ⟨z, hz⟩ : ∃ z, sgn x = z := ⟨_, rfl⟩
  rw [hz] at hsg ⊢
  clear hz
  obtain ⟨hb, hhb⟩ : ∃ b, decide (x / 16 % 2 = 1) = b := ⟨_, rfl⟩
  rw [hhb] at hand16 ⊢
  clear hhb
  have hL2 : 2 ≤ (x :: y :: r).length := by simp
  obtain ⟨L, hL⟩ : ∃ L, (x :: y :: r).length = L := ⟨_, rfl⟩
  rw [hL] at hcap hL2 hl ⊢
  have jl : (1 : Int) < (L : Int) := by omega
  have j0i : (0 : Int) < (L : Int) := by omega
  have HE : Hid (∀ W, Below w.heap.size w W → (Ending.returned (.tuple #[.iface 110 (.agg #[.int .i64 8, .int .i32 (z / 32), .bool hb]), .int .i64 1]) = Ending.returned (.tuple #[shapeV ⟨8, noText, z / 32, hb, 0⟩, .int .i64 ((1 : Nat) : Int)]) ∧ Below w.heap.size w W)) := Lib.hid (fun W h => ⟨rfl, h⟩)
  clear hgs hcell hx ht hv
  have cc0 : w.cell? a = some (.int .u32 (x : Int)) := hc0
  clear hcs hc0
  go_enter Tryd.func69, Tryd.ntmps69
  go_wp2_with fail
  go_ret2
  exact HE.out _ ((Below.refl _ _).alloc (Nat.le_refl _) _)

set_option maxRecDepth 100000 in
set_option maxHeartbeats 4000000 in
theorem guess_7b (tg : Nat → Nat) (v : Value) (x y : Nat) (r : List Nat) (hx : ∀ c ∈ (x :: y :: r), c < 4294967296) (hl : (x :: y :: r).length ≤ 64) (w : World) (hv : RdC w v (x :: y :: r)) (hcs : TabsT tg w)
    (ht : x % 16 = 7) : Calls Tryd.prog 69 #[v] w (GuessEnd w (x :: y :: r)) := by
  obtain ⟨a, cap, rfl, hcap, hab, hcell⟩ := hv.first (List.cons_ne_nil _ _)
  have _ := hl
  have hc0 : w.cell? (a.add 0) = some (.int .u32 (x : Int)) := hcell 0 (by simp)
  have hx0 := hx x (by simp)
  have hand := and15 hx0
  rw [ht] at hand
  have hand16 := and16 hx0
  have hc1 : w.cell? { block := a.block, off := a.off + 1 } = some (.int .u32 (y : Int)) := hcell 1 (by simp)
  have hx1 := hx y (by simp)
  have hgs : guessC (x :: y :: r) = (rawIt x, 1) := by
    unfold guessC
    simp only [List.getD_cons_zero, List.getD_cons_succ, ht]
    simp [kindT]
  unfold GuessEnd
  rw [hgs]
  have hk := hcs.kinds.cell 7 (by decide)
  change w.cell? ⟨0, 7, none⟩ = some (.int .i64 0) at hk
  have hkl := lt_of_cell_tab hk
  have hL2 : 2 ≤ (x :: y :: r).length := by simp
  obtain ⟨L, hL⟩ : ∃ L, (x :: y :: r).length = L := ⟨_, rfl⟩
  rw [hL] at hcap hL2 hl ⊢
  have jl : (1 : Int) < (L : Int) := by omega
  have j0i : (0 : Int) < (L : Int) := by omega
  have HE : Hid (∀ W, Below w.heap.size w W → (Ending.returned (.tuple #[.iface 114 (.agg #[.int .i64 0, .int .u32 (x : Int)]), .int .i64 1]) = Ending.returned (.tuple #[shapeV (rawIt x), .int .i64 ((1 : Nat) : Int)]) ∧ Below w.heap.size w W)) := Lib.hid (fun W h => ⟨rfl, h⟩)
  clear hgs hcell hx ht hv
  have cc0 : w.cell? a = some (.int .u32 (x : Int)) := hc0
  clear hcs hc0
  go_enter Tryd.func69, Tryd.ntmps69
  go_wp2_with fail
  go_ret2
  exact HE.out _ ((Below.refl _ _).alloc (Nat.le_refl _) _)
end Go.Proofs.YtllhcdkbgknjdaaDoor

namespace Go.Proofs.YtllhcdkbgknjdaaDoor
open Go.RowKit Go

set_option maxRecDepth 100000 in
set_option maxHeartbeats 4000000 in
theorem guess_8b (tg : Nat → Nat) (v : Value) (x y : Nat) (r : List Nat) (hx : ∀ c ∈ (x :: y :: r), c < 4294967296) (hl : (x :: y :: r).length ≤ 64) (w : World) (hv : RdC w v (x :: y :: r)) (hcs : TabsT tg w)
    (ht : x % 16 = 8) : Calls Tryd.prog 69 #[v] w (GuessEnd w (x :: y :: r)) := by
  obtain ⟨a, cap, rfl, hcap, hab, hcell⟩ := hv.first (List.cons_ne_nil _ _)
  have _ := hl
  have hc0 : w.cell? (a.add 0) = some (.int .u32 (x : Int)) := hcell 0 (by simp)
  have hx0 := hx x (by simp)
  have hand := and15 hx0
  rw [ht] at hand
  have hand16 := and16 hx0
  have hc1 : w.cell? { block := a.block, off := a.off + 1 } = some (.int .u32 (y : Int)) := hcell 1 (by simp)
  have hx1 := hx y (by simp)
  have hgs : guessC (x :: y :: r) = (⟨7, noText, sgn x / 32, decide (x / 16 % 2 = 1), 0⟩, 1) := by
    unfold guessC
    simp only [List.getD_cons_zero, List.getD_cons_succ, ht]
    simp [kindT]
  unfold GuessEnd
  rw [hgs]
  have hk := hcs.kinds.cell 8 (by decide)
  change w.cell? ⟨0, 8, none⟩ = some (.int .i64 7) at hk
  have hkl := lt_of_cell_tab hk
  have hsg := i32_sgn hx0
  obtain ⟨z, hz⟩ : ∃ z, sgn x = z := ⟨_, rfl⟩
  rw [hz] at hsg ⊢
  clear hz
  obtain ⟨hb, hhb⟩ : ∃ b, decide (x / 16 % 2 = 1) = b := ⟨_, rfl⟩
  rw [hhb] at hand16 ⊢
  clear hhb
  have hL2 : 2 ≤ (x :: y :: r).length := by simp
  obtain ⟨L, hL⟩ : ∃ L, (x :: y :: r).length = L := ⟨_, rfl⟩
  rw [hL] at hcap hL2 hl ⊢
  have jl : (1 : Int) < (L : Int) := by omega
  have j0i : (0 : Int) < (L : Int) := by omega
  have HE : Hid (∀ W, Below w.heap.size w W → (Ending.returned (.tuple #[.iface 110 (.agg #[.int .i64 7, .int .i32 (z / 32), .bool hb]), .int .i64 1]) = Ending.returned (.tuple #[shapeV ⟨7, noText, z / 32, hb, 0⟩, .int .i64 ((1 : Nat) : Int)]) ∧ Below w.heap.size w W)) := Lib.hid (fun W h => ⟨rfl, h⟩)
  clear hgs hcell hx ht hv
  have cc0 : w.cell? a = some (.int .u32 (x : Int)) := hc0
  clear hcs hc0
  go_enter Tryd.func69, Tryd.ntmps69
  go_wp2_with fail
  go_ret2
  exact HE.out _ ((Below.refl _ _).alloc (Nat.le_refl _) _)

set_option maxRecDepth 100000 in
set_option maxHeartbeats 4000000 in
theorem guess_9b (tg : Nat → Nat) (v : Value) (x y : Nat) (r : List Nat) (hx : ∀ c ∈ (x :: y :: r), c < 4294967296) (hl : (x :: y :: r).length ≤ 64) (w : World) (hv : RdC w v (x :: y :: r)) (hcs : TabsT tg w)
    (ht : x % 16 = 9) : Calls Tryd.prog 69 #[v] w (GuessEnd w (x :: y :: r)) := by
  obtain ⟨a, cap, rfl, hcap, hab, hcell⟩ := hv.first (List.cons_ne_nil _ _)
  have _ := hl
  have hc0 : w.cell? (a.add 0) = some (.int .u32 (x : Int)) := hcell 0 (by simp)
  have hx0 := hx x (by simp)
  have hand := and15 hx0
  rw [ht] at hand
  have hand16 := and16 hx0
  have hc1 : w.cell? { block := a.block, off := a.off + 1 } = some (.int .u32 (y : Int)) := hcell 1 (by simp)
  have hx1 := hx y (by simp)
  have hgs : guessC (x :: y :: r) = (⟨4, ⟨(unpacked (((x :: y :: r).take (spanC (x :: y :: r))).map (· / 16))).toArray⟩, 0, false, 0⟩, spanC (x :: y :: r)) := by
    unfold guessC
    simp only [List.getD_cons_zero, List.getD_cons_succ, ht]
    simp [kindT]
  unfold GuessEnd
  rw [hgs]
  have hk := hcs.kinds.cell 9 (by decide)
  change w.cell? ⟨0, 9, none⟩ = some (.int .i64 4) at hk
  have hkl := lt_of_cell_tab hk
  have HNS := Lib.hid (fun W (hb : Below w.heap.size w W) => namespan_any _ (x :: y :: r) hx (List.cons_ne_nil _ _) W (hv.below hb).1)
  have hsl := spanC_le (List.cons_ne_nil x (y :: r))
  have HTK := Lib.hid (hv.take (spanC (x :: y :: r)) hsl)
  have htl : ((x :: y :: r).take (spanC (x :: y :: r))).length ≤ 64 := by rw [List.length_take]; omega
  have HNI := Lib.hid (fun W (hb : Below w.heap.size w W) => namein_any _ ((x :: y :: r).take (spanC (x :: y :: r))) (fun c h => hx c (List.mem_of_mem_take h)) htl W ((HTK.out.below hb).1) (hcs.below hb).codes)
  obtain ⟨nm, hnm⟩ : ∃ nm : ByteArray, (⟨(unpacked (((x :: y :: r).take (spanC (x :: y :: r))).map (· / 16))).toArray⟩ : ByteArray) = nm := ⟨_, rfl⟩
  rw [hnm] at HNI ⊢
  obtain ⟨s, hs⟩ : ∃ s, spanC (x :: y :: r) = s := ⟨_, rfl⟩
  rw [hs] at HNS HNI hsl ⊢
  have hsi : (s : Int) ≤ (cap : Int) := by omega
  clear hnm hs HTK htl
  have hL2 : 2 ≤ (x :: y :: r).length := by simp
  obtain ⟨L, hL⟩ : ∃ L, (x :: y :: r).length = L := ⟨_, rfl⟩
  rw [hL] at hcap hL2 hl HNS hsl ⊢
  have jl : (1 : Int) < (L : Int) := by omega
  have j0i : (0 : Int) < (L : Int) := by omega
  have HE : Hid (∀ W, Below w.heap.size w W → (Ending.returned (.tuple #[.iface 108 (.agg #[.int .i64 4, .string nm]), .int .i64 (s : Int)]) = Ending.returned (.tuple #[shapeV ⟨4, nm, 0, false, 0⟩, .int .i64 ((s : Nat) : Int)]) ∧ Below w.heap.size w W)) := Lib.hid (fun W h => ⟨rfl, h⟩)
  clear hgs hcell hx ht hv
  have cc0 : w.cell? a = some (.int .u32 (x : Int)) := hc0
  clear hcs hc0
  go_enter Tryd.func69, Tryd.ntmps69
  go_wp2_with fail
  refine (HNS.out _ ((Below.refl _ _).alloc (Nat.le_refl _) _)).mono ?_
  rintro e w' ⟨rfl, rfl⟩
  have HBX : Hid (Below (w.heap.size + 1) (w.alloc (.cells #[.int .i64 4] 104)) (w.alloc (.cells #[.int .i64 4] 104)).drew) := Lib.hid (Below.refl _ _).drew
  go_wp2_with fail
  go_region_held3 (fun w' => w'.cell? ⟨w.heap.size, 0, none⟩ = some (.int .i64 4)) (first | exact (paint_box HBX.out).1 | go_keep | exact (paint_box (HBX.out.trans (hb2.mono (by simp)))).1) (first | (go_at_call 81; refine (HNI.out _ (paint_box HBX.out).2).mono ?_; rintro e w2 ⟨rfl, hb2⟩))
  go_wp2_with fail
  go_ret2
  exact HE.out _ (paint_box (HBX.out.trans (hb2.mono (by simp)))).2

set_option maxRecDepth 100000 in
set_option maxHeartbeats 4000000 in
theorem guess_10b (tg : Nat → Nat) (v : Value) (x y : Nat) (r : List Nat) (hx : ∀ c ∈ (x :: y :: r), c < 4294967296) (hl : (x :: y :: r).length ≤ 64) (w : World) (hv : RdC w v (x :: y :: r)) (hcs : TabsT tg w)
    (ht : x % 16 = 10) : Calls Tryd.prog 69 #[v] w (GuessEnd w (x :: y :: r)) := by
  obtain ⟨a, cap, rfl, hcap, hab, hcell⟩ := hv.first (List.cons_ne_nil _ _)
  have _ := hl
  have hc0 : w.cell? (a.add 0) = some (.int .u32 (x : Int)) := hcell 0 (by simp)
  have hx0 := hx x (by simp)
  have hand := and15 hx0
  rw [ht] at hand
  have hand16 := and16 hx0
  have hc1 : w.cell? { block := a.block, off := a.off + 1 } = some (.int .u32 (y : Int)) := hcell 1 (by simp)
  have hx1 := hx y (by simp)
  have hgs : guessC (x :: y :: r) = (⟨5, ⟨(unpacked (((x :: y :: r).take (spanC (x :: y :: r))).map (· / 16))).toArray⟩, 0, false, 0⟩, spanC (x :: y :: r)) := by
    unfold guessC
    simp only [List.getD_cons_zero, List.getD_cons_succ, ht]
    simp [kindT]
  unfold GuessEnd
  rw [hgs]
  have hk := hcs.kinds.cell 10 (by decide)
  change w.cell? ⟨0, 10, none⟩ = some (.int .i64 5) at hk
  have hkl := lt_of_cell_tab hk
  have HNS := Lib.hid (fun W (hb : Below w.heap.size w W) => namespan_any _ (x :: y :: r) hx (List.cons_ne_nil _ _) W (hv.below hb).1)
  have hsl := spanC_le (List.cons_ne_nil x (y :: r))
  have HTK := Lib.hid (hv.take (spanC (x :: y :: r)) hsl)
  have htl : ((x :: y :: r).take (spanC (x :: y :: r))).length ≤ 64 := by rw [List.length_take]; omega
  have HNI := Lib.hid (fun W (hb : Below w.heap.size w W) => namein_any _ ((x :: y :: r).take (spanC (x :: y :: r))) (fun c h => hx c (List.mem_of_mem_take h)) htl W ((HTK.out.below hb).1) (hcs.below hb).codes)
  obtain ⟨nm, hnm⟩ : ∃ nm : ByteArray, (⟨(unpacked (((x :: y :: r).take (spanC (x :: y :: r))).map (· / 16))).toArray⟩ : ByteArray) = nm := ⟨_, rfl⟩
  rw [hnm] at HNI ⊢
  obtain ⟨s, hs⟩ : ∃ s, spanC (x :: y :: r) = s := ⟨_, rfl⟩
  rw [hs] at HNS HNI hsl ⊢
  have hsi : (s : Int) ≤ (cap : Int) := by omega
  clear hnm hs HTK htl
  have hL2 : 2 ≤ (x :: y :: r).length := by simp
  obtain ⟨L, hL⟩ : ∃ L, (x :: y :: r).length = L := ⟨_, rfl⟩
  rw [hL] at hcap hL2 hl HNS hsl ⊢
  have jl : (1 : Int) < (L : Int) := by omega
  have j0i : (0 : Int) < (L : Int) := by omega
  have HE : Hid (∀ W, Below w.heap.size w W → (Ending.returned (.tuple #[.iface 108 (.agg #[.int .i64 5, .string nm]), .int .i64 (s : Int)]) = Ending.returned (.tuple #[shapeV ⟨5, nm, 0, false, 0⟩, .int .i64 ((s : Nat) : Int)]) ∧ Below w.heap.size w W)) := Lib.hid (fun W h => ⟨rfl, h⟩)
  clear hgs hcell hx ht hv
  have cc0 : w.cell? a = some (.int .u32 (x : Int)) := hc0
  clear hcs hc0
  go_enter Tryd.func69, Tryd.ntmps69
  go_wp2_with fail
  refine (HNS.out _ ((Below.refl _ _).alloc (Nat.le_refl _) _)).mono ?_
  rintro e w' ⟨rfl, rfl⟩
  have HBX : Hid (Below (w.heap.size + 1) (w.alloc (.cells #[.int .i64 5] 104)) (w.alloc (.cells #[.int .i64 5] 104)).drew) := Lib.hid (Below.refl _ _).drew
  go_wp2_with fail
  go_region_held3 (fun w' => w'.cell? ⟨w.heap.size, 0, none⟩ = some (.int .i64 5)) (first | exact (paint_box HBX.out).1 | go_keep | exact (paint_box (HBX.out.trans (hb2.mono (by simp)))).1) (first | (go_at_call 81; refine (HNI.out _ (paint_box HBX.out).2).mono ?_; rintro e w2 ⟨rfl, hb2⟩))
  go_wp2_with fail
  go_ret2
  exact HE.out _ (paint_box (HBX.out.trans (hb2.mono (by simp)))).2

set_option maxRecDepth 100000 in
set_option maxHeartbeats 4000000 in
theorem guess_11b (tg : Nat → Nat) (v : Value) (x y : Nat) (r : List Nat) (hx : ∀ c ∈ (x :: y :: r), c < 4294967296) (hl : (x :: y :: r).length ≤ 64) (w : World) (hv : RdC w v (x :: y :: r)) (hcs : TabsT tg w)
    (ht : x % 16 = 11) : Calls Tryd.prog 69 #[v] w (GuessEnd w (x :: y :: r)) := by
  obtain ⟨a, cap, rfl, hcap, hab, hcell⟩ := hv.first (List.cons_ne_nil _ _)
  have _ := hl
  have hc0 : w.cell? (a.add 0) = some (.int .u32 (x : Int)) := hcell 0 (by simp)
  have hx0 := hx x (by simp)
  have hand := and15 hx0
  rw [ht] at hand
  have hand16 := and16 hx0
  have hc1 : w.cell? { block := a.block, off := a.off + 1 } = some (.int .u32 (y : Int)) := hcell 1 (by simp)
  have hx1 := hx y (by simp)
  have hgs : guessC (x :: y :: r) = (⟨6, ⟨(unpacked (((x :: y :: r).take (spanC (x :: y :: r))).map (· / 16))).toArray⟩, 0, false, 0⟩, spanC (x :: y :: r)) := by
    unfold guessC
    simp only [List.getD_cons_zero, List.getD_cons_succ, ht]
    simp [kindT]
  unfold GuessEnd
  rw [hgs]
  have hk := hcs.kinds.cell 11 (by decide)
  change w.cell? ⟨0, 11, none⟩ = some (.int .i64 6) at hk
  have hkl := lt_of_cell_tab hk
  have HNS := Lib.hid (fun W (hb : Below w.heap.size w W) => namespan_any _ (x :: y :: r) hx (List.cons_ne_nil _ _) W (hv.below hb).1)
  have hsl := spanC_le (List.cons_ne_nil x (y :: r))
  have HTK := Lib.hid (hv.take (spanC (x :: y :: r)) hsl)
  have htl : ((x :: y :: r).take (spanC (x :: y :: r))).length ≤ 64 := by rw [List.length_take]; omega
  have HNI := Lib.hid (fun W (hb : Below w.heap.size w W) => namein_any _ ((x :: y :: r).take (spanC (x :: y :: r))) (fun c h => hx c (List.mem_of_mem_take h)) htl W ((HTK.out.below hb).1) (hcs.below hb).codes)
  obtain ⟨nm, hnm⟩ : ∃ nm : ByteArray, (⟨(unpacked (((x :: y :: r).take (spanC (x :: y :: r))).map (· / 16))).toArray⟩ : ByteArray) = nm := ⟨_, rfl⟩
  rw [hnm] at HNI ⊢
  obtain ⟨s, hs⟩ : ∃ s, spanC (x :: y :: r) = s := ⟨_, rfl⟩
  rw [hs] at HNS HNI hsl ⊢
  have hsi : (s : Int) ≤ (cap : Int) := by omega
  clear hnm hs HTK htl
  have hL2 : 2 ≤ (x :: y :: r).length := by simp
  obtain ⟨L, hL⟩ : ∃ L, (x :: y :: r).length = L := ⟨_, rfl⟩
  rw [hL] at hcap hL2 hl HNS hsl ⊢
  have jl : (1 : Int) < (L : Int) := by omega
  have j0i : (0 : Int) < (L : Int) := by omega
  have HE : Hid (∀ W, Below w.heap.size w W → (Ending.returned (.tuple #[.iface 108 (.agg #[.int .i64 6, .string nm]), .int .i64 (s : Int)]) = Ending.returned (.tuple #[shapeV ⟨6, nm, 0, false, 0⟩, .int .i64 ((s : Nat) : Int)]) ∧ Below w.heap.size w W)) := Lib.hid (fun W h => ⟨rfl, h⟩)
  clear hgs hcell hx ht hv
  have cc0 : w.cell? a = some (.int .u32 (x : Int)) := hc0
  clear hcs hc0
  go_enter Tryd.func69, Tryd.ntmps69
  go_wp2_with fail
  refine (HNS.out _ ((Below.refl _ _).alloc (Nat.le_refl _) _)).mono ?_
  rintro e w' ⟨rfl, rfl⟩
  have HBX : Hid (Below (w.heap.size + 1) (w.alloc (.cells #[.int .i64 6] 104)) (w.alloc (.cells #[.int .i64 6] 104)).drew) := Lib.hid (Below.refl _ _).drew
  go_wp2_with fail
  go_region_held3 (fun w' => w'.cell? ⟨w.heap.size, 0, none⟩ = some (.int .i64 6)) (first | exact (paint_box HBX.out).1 | go_keep | exact (paint_box (HBX.out.trans (hb2.mono (by simp)))).1) (first | (go_at_call 81; refine (HNI.out _ (paint_box HBX.out).2).mono ?_; rintro e w2 ⟨rfl, hb2⟩))
  go_wp2_with fail
  go_ret2
  exact HE.out _ (paint_box (HBX.out.trans (hb2.mono (by simp)))).2

set_option maxRecDepth 100000 in
set_option maxHeartbeats 4000000 in
theorem guess_12b (tg : Nat → Nat) (v : Value) (x y : Nat) (r : List Nat) (hx : ∀ c ∈ (x :: y :: r), c < 4294967296) (hl : (x :: y :: r).length ≤ 64) (w : World) (hv : RdC w v (x :: y :: r)) (hcs : TabsT tg w)
    (ht : x % 16 = 12) : Calls Tryd.prog 69 #[v] w (GuessEnd w (x :: y :: r)) := by
  obtain ⟨a, cap, rfl, hcap, hab, hcell⟩ := hv.first (List.cons_ne_nil _ _)
  have _ := hl
  have hc0 : w.cell? (a.add 0) = some (.int .u32 (x : Int)) := hcell 0 (by simp)
  have hx0 := hx x (by simp)
  have hand := and15 hx0
  rw [ht] at hand
  have hand16 := and16 hx0
  have hc1 : w.cell? { block := a.block, off := a.off + 1 } = some (.int .u32 (y : Int)) := hcell 1 (by simp)
  have hx1 := hx y (by simp)
  have hgs : guessC (x :: y :: r) = (⟨9, ⟨(unpOne (x / 16)).toArray⟩, sgn y, false, 0⟩, 2) := by
    unfold guessC
    simp only [List.getD_cons_zero, List.getD_cons_succ, ht]
    simp [kindT]
  unfold GuessEnd
  rw [hgs]
  have hk := hcs.kinds.cell 12 (by decide)
  change w.cell? ⟨0, 12, none⟩ = some (.int .i64 9) at hk
  have hkl := lt_of_cell_tab hk
  have HUN := Lib.hid (fun W (hb : Below w.heap.size w W) => impl_unpackone (x / 16) (by omega) W (hcs.below hb).codes)
  obtain ⟨nm, hnm⟩ : ∃ nm : ByteArray, (⟨(unpOne (x / 16)).toArray⟩ : ByteArray) = nm := ⟨_, rfl⟩
  rw [hnm] at HUN ⊢
  clear hnm
  have hsg := i32_sgn hx1
  obtain ⟨z, hz⟩ : ∃ z, sgn y = z := ⟨_, rfl⟩
  rw [hz] at hsg ⊢
  clear hz
  have hL2 : 2 ≤ (x :: y :: r).length := by simp
  obtain ⟨L, hL⟩ : ∃ L, (x :: y :: r).length = L := ⟨_, rfl⟩
  rw [hL] at hcap hL2 hl ⊢
  have jl : (1 : Int) < (L : Int) := by omega
  have j0i : (0 : Int) < (L : Int) := by omega
  have HE : Hid (∀ W, Below w.heap.size w W → (Ending.returned (.tuple #[.iface 112 (.agg #[.int .i64 9, .string nm, .int .i32 z]), .int .i64 2]) = Ending.returned (.tuple #[shapeV ⟨9, nm, z, false, 0⟩, .int .i64 ((2 : Nat) : Int)]) ∧ Below w.heap.size w W)) := Lib.hid (fun W h => ⟨rfl, h⟩)
  clear hgs hcell hx ht hv
  have cc0 : w.cell? a = some (.int .u32 (x : Int)) := hc0
  clear hcs hc0
  go_enter Tryd.func69, Tryd.ntmps69
  go_wp2_with fail
  have HBX : Hid (Below (w.heap.size + 1) (w.alloc (.cells #[.int .i64 9] 104)) (w.alloc (.cells #[.int .i64 9] 104)).drew) := Lib.hid (Below.refl _ _).drew
  go_region_held3 (fun w' => w'.cell? ⟨w.heap.size, 0, none⟩ = some (.int .i64 9)) (first | exact (paint_box HBX.out).1 | go_keep | exact (paint_box (HBX.out.trans (hb2.mono (by simp)))).1) (first | (go_at_call 82; refine (HUN.out _ (paint_box HBX.out).2).mono ?_; rintro e w2 ⟨rfl, hb2⟩))
  go_wp2_with fail
  go_ret2
  exact HE.out _ (paint_box (HBX.out.trans (hb2.mono (by simp)))).2

set_option maxRecDepth 100000 in
set_option maxHeartbeats 4000000 in
theorem guess_13b (tg : Nat → Nat) (v : Value) (x y : Nat) (r : List Nat) (hx : ∀ c ∈ (x :: y :: r), c < 4294967296) (hl : (x :: y :: r).length ≤ 64) (w : World) (hv : RdC w v (x :: y :: r)) (hcs : TabsT tg w)
    (ht : x % 16 = 13) : Calls Tryd.prog 69 #[v] w (GuessEnd w (x :: y :: r)) := by
  obtain ⟨a, cap, rfl, hcap, hab, hcell⟩ := hv.first (List.cons_ne_nil _ _)
  have _ := hl
  have hc0 : w.cell? (a.add 0) = some (.int .u32 (x : Int)) := hcell 0 (by simp)
  have hx0 := hx x (by simp)
  have hand := and15 hx0
  rw [ht] at hand
  have hand16 := and16 hx0
  have hc1 : w.cell? { block := a.block, off := a.off + 1 } = some (.int .u32 (y : Int)) := hcell 1 (by simp)
  have hx1 := hx y (by simp)
  have hgs : guessC (x :: y :: r) = (rawIt x, 1) := by
    unfold guessC
    simp only [List.getD_cons_zero, List.getD_cons_succ, ht]
    simp [kindT]
  unfold GuessEnd
  rw [hgs]
  have hk := hcs.kinds.cell 13 (by decide)
  change w.cell? ⟨0, 13, none⟩ = some (.int .i64 0) at hk
  have hkl := lt_of_cell_tab hk
  have hL2 : 2 ≤ (x :: y :: r).length := by simp
  obtain ⟨L, hL⟩ : ∃ L, (x :: y :: r).length = L := ⟨_, rfl⟩
  rw [hL] at hcap hL2 hl ⊢
  have jl : (1 : Int) < (L : Int) := by omega
  have j0i : (0 : Int) < (L : Int) := by omega
  have HE : Hid (∀ W, Below w.heap.size w W → (Ending.returned (.tuple #[.iface 114 (.agg #[.int .i64 0, .int .u32 (x : Int)]), .int .i64 1]) = Ending.returned (.tuple #[shapeV (rawIt x), .int .i64 ((1 : Nat) : Int)]) ∧ Below w.heap.size w W)) := Lib.hid (fun W h => ⟨rfl, h⟩)
  clear hgs hcell hx ht hv
  have cc0 : w.cell? a = some (.int .u32 (x : Int)) := hc0
  clear hcs hc0
  go_enter Tryd.func69, Tryd.ntmps69
  go_wp2_with fail
  go_ret2
  exact HE.out _ ((Below.refl _ _).alloc (Nat.le_refl _) _)

set_option maxRecDepth 100000 in
set_option maxHeartbeats 4000000 in
theorem guess_14b (tg : Nat → Nat) (v : Value) (x y : Nat) (r : List Nat) (hx : ∀ c ∈ (x :: y :: r), c < 4294967296) (hl : (x :: y :: r).length ≤ 64) (w : World) (hv : RdC w v (x :: y :: r)) (hcs : TabsT tg w)
    (ht : x % 16 = 14) : Calls Tryd.prog 69 #[v] w (GuessEnd w (x :: y :: r)) := by
  obtain ⟨a, cap, rfl, hcap, hab, hcell⟩ := hv.first (List.cons_ne_nil _ _)
  have _ := hl
  have hc0 : w.cell? (a.add 0) = some (.int .u32 (x : Int)) := hcell 0 (by simp)
  have hx0 := hx x (by simp)
  have hand := and15 hx0
  rw [ht] at hand
  have hand16 := and16 hx0
  have hc1 : w.cell? { block := a.block, off := a.off + 1 } = some (.int .u32 (y : Int)) := hcell 1 (by simp)
  have hx1 := hx y (by simp)
  have hgs : guessC (x :: y :: r) = (rawIt x, 1) := by
    unfold guessC
    simp only [List.getD_cons_zero, List.getD_cons_succ, ht]
    simp [kindT]
  unfold GuessEnd
  rw [hgs]
  have hk := hcs.kinds.cell 14 (by decide)
  change w.cell? ⟨0, 14, none⟩ = some (.int .i64 0) at hk
  have hkl := lt_of_cell_tab hk
  have hL2 : 2 ≤ (x :: y :: r).length := by simp
  obtain ⟨L, hL⟩ : ∃ L, (x :: y :: r).length = L := ⟨_, rfl⟩
  rw [hL] at hcap hL2 hl ⊢
  have jl : (1 : Int) < (L : Int) := by omega
  have j0i : (0 : Int) < (L : Int) := by omega
  have HE : Hid (∀ W, Below w.heap.size w W → (Ending.returned (.tuple #[.iface 114 (.agg #[.int .i64 0, .int .u32 (x : Int)]), .int .i64 1]) = Ending.returned (.tuple #[shapeV (rawIt x), .int .i64 ((1 : Nat) : Int)]) ∧ Below w.heap.size w W)) := Lib.hid (fun W h => ⟨rfl, h⟩)
  clear hgs hcell hx ht hv
  have cc0 : w.cell? a = some (.int .u32 (x : Int)) := hc0
  clear hcs hc0
  go_enter Tryd.func69, Tryd.ntmps69
  go_wp2_with fail
  go_ret2
  exact HE.out _ ((Below.refl _ _).alloc (Nat.le_refl _) _)

set_option maxRecDepth 100000 in
set_option maxHeartbeats 4000000 in
theorem guess_15b (tg : Nat → Nat) (v : Value) (x y : Nat) (r : List Nat) (hx : ∀ c ∈ (x :: y :: r), c < 4294967296) (hl : (x :: y :: r).length ≤ 64) (w : World) (hv : RdC w v (x :: y :: r)) (hcs : TabsT tg w)
    (ht : x % 16 = 15) : Calls Tryd.prog 69 #[v] w (GuessEnd w (x :: y :: r)) := by
  obtain ⟨a, cap, rfl, hcap, hab, hcell⟩ := hv.first (List.cons_ne_nil _ _)
  have _ := hl
  have hc0 : w.cell? (a.add 0) = some (.int .u32 (x : Int)) := hcell 0 (by simp)
  have hx0 := hx x (by simp)
  have hand := and15 hx0
  rw [ht] at hand
  have hand16 := and16 hx0
  have hc1 : w.cell? { block := a.block, off := a.off + 1 } = some (.int .u32 (y : Int)) := hcell 1 (by simp)
  have hx1 := hx y (by simp)
  have hgs : guessC (x :: y :: r) = (rawIt x, 1) := by
    unfold guessC
    simp only [List.getD_cons_zero, List.getD_cons_succ, ht]
    simp [kindT]
  unfold GuessEnd
  rw [hgs]
  have hk := hcs.kinds.cell 15 (by decide)
  change w.cell? ⟨0, 15, none⟩ = some (.int .i64 0) at hk
  have hkl := lt_of_cell_tab hk
  have hL2 : 2 ≤ (x :: y :: r).length := by simp
  obtain ⟨L, hL⟩ : ∃ L, (x :: y :: r).length = L := ⟨_, rfl⟩
  rw [hL] at hcap hL2 hl ⊢
  have jl : (1 : Int) < (L : Int) := by omega
  have j0i : (0 : Int) < (L : Int) := by omega
  have HE : Hid (∀ W, Below w.heap.size w W → (Ending.returned (.tuple #[.iface 114 (.agg #[.int .i64 0, .int .u32 (x : Int)]), .int .i64 1]) = Ending.returned (.tuple #[shapeV (rawIt x), .int .i64 ((1 : Nat) : Int)]) ∧ Below w.heap.size w W)) := Lib.hid (fun W h => ⟨rfl, h⟩)
  clear hgs hcell hx ht hv
  have cc0 : w.cell? a = some (.int .u32 (x : Int)) := hc0
  clear hcs hc0
  go_enter Tryd.func69, Tryd.ntmps69
  go_wp2_with fail
  go_ret2
  exact HE.out _ ((Below.refl _ _).alloc (Nat.le_refl _) _)
end Go.Proofs.YtllhcdkbgknjdaaDoor

namespace Go.Proofs.YtllhcdkbgknjdaaDoor
open Go.RowKit Go

theorem impl_guess (tg : Nat → Nat) (v : Value) (xs : List Nat) (hx : ∀ c ∈ xs, c < 4294967296) (h0 : xs ≠ []) (hl : xs.length ≤ 64) (w : World) (hv : RdC w v xs) (hcs : TabsT tg w) : Calls Tryd.prog 69 #[v] w (GuessEnd w xs) := by
  have h16 : ∀ n : Nat, n < 16 → n = 0 ∨ n = 1 ∨ n = 2 ∨ n = 3 ∨ n = 4 ∨ n = 5 ∨ n = 6 ∨ n = 7 ∨ n = 8 ∨ n = 9 ∨ n = 10 ∨ n = 11 ∨ n = 12 ∨ n = 13 ∨ n = 14 ∨ n = 15 := by omega
  match xs, h0 with
  | [x], _ =>
    rcases h16 (x % 16) (by omega) with h | h | h | h | h | h | h | h | h | h | h | h | h | h | h | h
    · exact guess_0a tg v x hx hl w hv hcs h
    · exact guess_1a tg v x hx hl w hv hcs h
    · exact guess_2a tg v x hx hl w hv hcs h
    · exact guess_3a tg v x hx hl w hv hcs h
    · exact guess_4a tg v x hx hl w hv hcs h
    · exact guess_5a tg v x hx hl w hv hcs h
    · exact guess_6a tg v x hx hl w hv hcs h
    · exact guess_7a tg v x hx hl w hv hcs h
    · exact guess_8a tg v x hx hl w hv hcs h
    · exact guess_9a tg v x hx hl w hv hcs h
    · exact guess_10a tg v x hx hl w hv hcs h
    · exact guess_11a tg v x hx hl w hv hcs h
    · exact guess_12a tg v x hx hl w hv hcs h
    · exact guess_13a tg v x hx hl w hv hcs h
    · exact guess_14a tg v x hx hl w hv hcs h
    · exact guess_15a tg v x hx hl w hv hcs h
  | x :: y :: r, _ =>
    rcases h16 (x % 16) (by omega) with h | h | h | h | h | h | h | h | h | h | h | h | h | h | h | h
    · exact guess_0b tg v x y r hx hl w hv hcs h
    · exact guess_1b tg v x y r hx hl w hv hcs h
    · exact guess_2b tg v x y r hx hl w hv hcs h
    · exact guess_3b tg v x y r hx hl w hv hcs h
    · exact guess_4b tg v x y r hx hl w hv hcs h
    · exact guess_5b tg v x y r hx hl w hv hcs h
    · exact guess_6b tg v x y r hx hl w hv hcs h
    · exact guess_7b tg v x y r hx hl w hv hcs h
    · exact guess_8b tg v x y r hx hl w hv hcs h
    · exact guess_9b tg v x y r hx hl w hv hcs h
    · exact guess_10b tg v x y r hx hl w hv hcs h
    · exact guess_11b tg v x y r hx hl w hv hcs h
    · exact guess_12b tg v x y r hx hl w hv hcs h
    · exact guess_13b tg v x y r hx hl w hv hcs h
    · exact guess_14b tg v x y r hx hl w hv hcs h
    · exact guess_15b tg v x y r hx hl w hv hcs h
end Go.Proofs.YtllhcdkbgknjdaaDoor

namespace Go.Proofs.YtllhcdkbgknjdaaDoor
open Go.RowKit Go

def putIt (w : World) (g : Nat) (k : Int) (nm : ByteArray) (n : Int) (hx : Bool) (r : Int) : World := ((((w.setCell ⟨g, 0, none⟩ (.int .i64 k)).setCell ⟨g, 1, none⟩ (.string nm)).setCell ⟨g, 2, none⟩ (.int .i32 n)).setCell ⟨g, 3, none⟩ (.bool hx)).setCell ⟨g, 4, none⟩ (.int .u32 r)
theorem putIt_below {B : Nat} {w w1 : World} {g : Nat} (h : Below B w w1) (hg : B ≤ g) (k : Int) (nm : ByteArray) (n : Int) (hx : Bool) (r : Int) : Below B w (putIt w1 g k nm n hx r) :=
  ((((h.setCell hg _).setCell hg _).setCell hg _).setCell hg _).setCell hg _
theorem putIt_blk {w : World} {g : Nat} {t : TypeId} {k0 : Int} {nm0 : ByteArray} {n0 : Int} {hx0 : Bool} {r0 : Int} (h : Blk w g t (itC k0 nm0 n0 hx0 r0)) (k : Int) (nm : ByteArray) (n : Int) (hx : Bool) (r : Int) : Blk (putIt w g k nm n hx r) g t (itC k nm n hx r) := item_put h k nm n hx r
theorem res_blk {w w1 : World} {t : TypeId} {cs : Array Value} (h : Below (w.heap.size + 1) (w.alloc (.cells cs t)) w1) : Blk w1 w.heap.size t cs := (Blk.new w t cs).below h (by omega)
end Go.Proofs.YtllhcdkbgknjdaaDoor
