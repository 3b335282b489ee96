/-
  Recolor of the program, whatever the tables hold.
-/
import Derived.Test.YtllhcdkbgknjdaaAkin
import Derived.Handy
namespace Go.Proofs.Ytllhcdkbgknjdaa
open Go.RowKit Go

/-- An item is stored. -/
def putAll (w : World) (g : Nat) (k : Int) (nm : ByteArray) (n : Int) (hx : Bool) (r : Int) : World := ((((w.setCell ⟨g, 0, none⟩ (.int .i64 k)).setCell ⟨g, 1, none⟩ (.string nm)).setCell ⟨g, 2, none⟩ (.int .i32 n)).setCell ⟨g, 3, none⟩ (.bool hx)).setCell ⟨g, 4, none⟩ (.int .u32 r)
theorem putAll_below {w w1 : World} {g : Nat} (h : Below w.heap.size w w1) (hg : w.heap.size ≤ g) (k : Int) (nm : ByteArray) (n : Int) (hx : Bool) (r : Int) : Below w.heap.size w (putAll w1 g k nm n hx r) :=
  ((((h.setCell hg _).setCell hg _).setCell hg _).setCell hg _).setCell hg _
theorem putAll_blk {w : World} {g : Nat} {t : TypeId} {k0 : Int} {nm0 : ByteArray} {n0 : Int} {hx0 : Bool} {r0 : Int} (h : Blk w g t (itC k0 nm0 n0 hx0 r0)) (k : Int) (nm : ByteArray) (n : Int) (hx : Bool) (r : Int) : Blk (putAll w g k nm n hx r) g t (itC k nm n hx r) := item_put h k nm n hx r
/-- What Recolor answers. -/
def RecEnd (it : It) (k : Int) (w : World) (e : Ending) (w' : World) : Prop := e = .returned (.tuple #[itVal (recol it k), .bool (recolOk it k)]) ∧ Below w.heap.size w w'
theorem rec_no {it : It} {k : Int} {w w' : World} (h : recolOk it k = false) (hb : Below w.heap.size w w') : RecEnd it k w (.returned (.tuple #[itA 0 ⟨#[]⟩ 0 false 0, .bool false])) w' := by
  refine ⟨?_, hb⟩
  have e : recol it k = zeroIt := by unfold recol; rw [if_neg (by rw [h]; decide)]
  rw [e, h]
  rfl
theorem rec_yes {k0 : Int} {nm : ByteArray} {n : Int} {x : Bool} {r : Nat} {k : Int} {w w' : World} (h : recolOk ⟨k0, nm, n, x, r⟩ k = true) (hb : Below w.heap.size w w') : RecEnd ⟨k0, nm, n, x, r⟩ k w (.returned (.tuple #[itA k nm n x (r : Int), .bool true])) w' := by
  refine ⟨?_, hb⟩
  have e : recol ⟨k0, nm, n, x, r⟩ k = ⟨k, nm, n, x, r⟩ := by unfold recol; rw [if_pos h]
  rw [e, h]

set_option maxHeartbeats 4000000 in
theorem impl_recolor_no1 (it : It) (hin : ItIn it) (k : Int) (w : World) (hcs : TabsAny w) (h : decide (cellsOf it ≠ []) = false) : Calls Try.prog 7 #[itVal it, .int .i64 k] w (RecEnd it k w) := by
  have HE : Hid (recolOk it k = false) := Lib.hid (by unfold recolOk; rw [h, Bool.false_and])
  have HI := Lib.hid (fun W (hb : Below w.heap.size w W) => impl_itemok it hin W (hcs.below hb))
  rw [h] at HI
  obtain ⟨k0, nm, n, x, r⟩ := it
  clear h hin hcs
  go_enter Try.func7, Try.ntmps7
  go_wp2_with fail
  refine (HI.out _ (by go_grown)).mono ?_
  rintro e w1 ⟨rfl, hb⟩
  obtain ⟨k1, k2, hB, hz⟩ := two_boxes hb
  obtain ⟨d0, d1, d2, d3, d4, f0, f1, f2, f3, f4⟩ := itC_cells (k := 0) (nm := ⟨#[]⟩) (n := 0) (hx := false) (r := 0) k2
  have HB := Lib.hid hB
  have K2 := Lib.hid (show Blk w1 (w.heap.size + 1) 26 (itC 0 ⟨#[]⟩ 0 false 0) from k2)
  clear hb hB k1 k2 hz HI
  go_wp2_with fail
  have hk := putAll_blk K2.out 0 ⟨#[]⟩ 0 false 0
  have hbl := putAll_below (g := w.heap.size + 1) HB.out (by omega) 0 ⟨#[]⟩ 0 false 0
  show bodyPost _ _ _ _ _ (putAll w1 (w.heap.size + 1) 0 ⟨#[]⟩ 0 false 0)
  generalize putAll w1 (w.heap.size + 1) 0 ⟨#[]⟩ 0 false 0 = W5 at hk hbl ⊢
  obtain ⟨e0, e1, e2, e3, e4, -⟩ := itC_cells hk
  clear hk
  exact bodyPost_ret (v := .tuple #[itA 0 ⟨#[]⟩ 0 false 0, .bool false]) (by simp [results, Try.results7, e0, e1, e2, e3, e4, go_sem]) rfl (rec_no HE.out hbl)

set_option maxHeartbeats 4000000 in
theorem impl_recolor_no2 (it : It) (hin : ItIn it) (k : Int) (w : World) (hcs : TabsAny w) (h : decide (cellsOf it ≠ []) = true) (ha : akin it.kind k = false) : Calls Try.prog 7 #[itVal it, .int .i64 k] w (RecEnd it k w) := by
  have HE : Hid (recolOk it k = false) := Lib.hid (by unfold recolOk; rw [ha, Bool.and_false])
  have HI := Lib.hid (fun W (hb : Below w.heap.size w W) => impl_itemok it hin W (hcs.below hb))
  rw [h] at HI
  have HA := Lib.hid (fun W => isakin_any it.kind k W)
  rw [ha] at HA
  obtain ⟨k0, nm, n, x, r⟩ := it
  clear h hin hcs ha
  go_enter Try.func7, Try.ntmps7
  go_wp2_with fail
  refine (HI.out _ (by go_grown)).mono ?_
  rintro e w1 ⟨rfl, hb⟩
  obtain ⟨k1, k2, hB, hz⟩ := two_boxes hb
  have c0 : w1.cell? ⟨w.heap.size, 0, none⟩ = some (.int .i64 k0) := k1.cell 0
  obtain ⟨d0, d1, d2, d3, d4, f0, f1, f2, f3, f4⟩ := itC_cells (k := 0) (nm := ⟨#[]⟩) (n := 0) (hx := false) (r := 0) k2
  have HB := Lib.hid hB
  have K2 := Lib.hid (show Blk w1 (w.heap.size + 1) 26 (itC 0 ⟨#[]⟩ 0 false 0) from k2)
  clear hb hB k1 k2 hz HI
  go_wp2_with fail
  refine (HA.out _).mono ?_
  rintro e w' ⟨rfl, rfl⟩
  go_wp2_with fail
  have hk := putAll_blk K2.out 0 ⟨#[]⟩ 0 false 0
  have hbl := putAll_below (g := w.heap.size + 1) HB.out (by omega) 0 ⟨#[]⟩ 0 false 0
  show bodyPost _ _ _ _ _ (putAll w1 (w.heap.size + 1) 0 ⟨#[]⟩ 0 false 0)
  generalize putAll w1 (w.heap.size + 1) 0 ⟨#[]⟩ 0 false 0 = W5 at hk hbl ⊢
  obtain ⟨e0, e1, e2, e3, e4, -⟩ := itC_cells hk
  clear hk
  exact bodyPost_ret (v := .tuple #[itA 0 ⟨#[]⟩ 0 false 0, .bool false]) (by simp [results, Try.results7, e0, e1, e2, e3, e4, go_sem]) rfl (rec_no HE.out hbl)

set_option maxHeartbeats 4000000 in
theorem ownitem_any (k0 : Int) (nm : ByteArray) (n : Int) (x : Bool) (r : Int) (hs : nm.size ≤ 281474976710656) (w : World) : Calls Try.prog 18 #[itA k0 nm n x r] w fun e w' => e = .returned (itA k0 nm n x r) ∧ Below w.heap.size w w' := by
  have HC := Lib.hid (fun W => clone_any nm hs W)
  have k1 := (Blk.new w 26 (itC k0 nm n x r)).alloc (.cells (itC 0 ⟨#[]⟩ 0 false 0) 26)
  have k2 := Blk.new (w.alloc (.cells (itC k0 nm n x r) 26)) 26 (itC 0 ⟨#[]⟩ 0 false 0)
  have hB0 : Below w.heap.size w ((w.alloc (.cells (itC k0 nm n x r) 26)).alloc (.cells (itC 0 ⟨#[]⟩ 0 false 0) 26)) := ((Below.refl _ _).alloc (Nat.le_refl _) _).alloc (by simp) _
  have hz0 : ((w.alloc (.cells (itC k0 nm n x r) 26)).alloc (.cells (itC 0 ⟨#[]⟩ 0 false 0) 26)).heap.size = w.heap.size + 2 := by simp
  have e0 : (w.alloc (.cells (itC k0 nm n x r) 26)).heap.size = w.heap.size + 1 := by simp
  rw [e0] at k2
  have K1 := Lib.hid k1
  have K2 := Lib.hid k2
  have HB0 := Lib.hid hB0
  have HZ0 := Lib.hid hz0
  clear hs k1 k2 hB0 hz0 e0
  go_enter Try.func18, Try.ntmps18
  go_wp2_with fail
  refine (HC.out _).mono ?_
  rintro e w2 ⟨rfl, hb2⟩
  have q1 := K1.out.below hb2 (by first | (simp; done) | (simp; omega))
  have q2 := K2.out.below hb2 (by first | (simp; done) | (simp; omega))
  obtain ⟨g0, g1, g2, g3, g4, h0, h1, h2, h3, h4⟩ := itC_cells q1
  obtain ⟨d0, d1, d2, d3, d4, f0, f1, f2, f3, f4⟩ := itC_cells q2
  have HB2 := Lib.hid (HB0.out.trans (hb2.mono (by simp; omega)))
  have Q2 := Lib.hid q2
  have HNE : Hid (w.heap.size + 1 ≠ w.heap.size) := Lib.hid (by omega)
  clear hb2 q1 q2 K1 K2 HC HB0
  go_wp2_with fail
  have hk := putAll_blk (Q2.out.far (p := ⟨w.heap.size, 1, none⟩) HNE.out (.string nm)) k0 nm n x r
  have hbl := putAll_below (g := w.heap.size + 1) (HB2.out.setCell (p := ⟨w.heap.size, 1, none⟩) (Nat.le_refl _) (.string nm)) (by omega) k0 nm n x r
  show bodyPost _ _ _ _ _ (putAll (w2.setCell ⟨w.heap.size, 1, none⟩ (.string nm)) (w.heap.size + 1) k0 nm n x r)
  generalize putAll (w2.setCell ⟨w.heap.size, 1, none⟩ (.string nm)) (w.heap.size + 1) k0 nm n x r = W5 at hk hbl ⊢
  obtain ⟨e0, e1, e2, e3, e4, -⟩ := itC_cells hk
  clear hk
  exact bodyPost_ret (v := itA k0 nm n x r) (by simp [results, Try.results18, e0, e1, e2, e3, e4, go_sem]) rfl ⟨rfl, hbl⟩

set_option maxHeartbeats 8000000 in
theorem impl_recolor_yes (it : It) (hin : ItIn it) (k : Int) (w : World) (hcs : TabsAny w) (hs : it.name.size ≤ 281474976710656) (h : decide (cellsOf it ≠ []) = true) (ha : akin it.kind k = true) : Calls Try.prog 7 #[itVal it, .int .i64 k] w (RecEnd it k w) := by
  have HE : Hid (recolOk it k = true) := Lib.hid (by unfold recolOk; rw [h, ha]; rfl)
  have HI := Lib.hid (fun W (hb : Below w.heap.size w W) => impl_itemok it hin W (hcs.below hb))
  rw [h] at HI
  have HA := Lib.hid (fun W => isakin_any it.kind k W)
  rw [ha] at HA
  have HC := Lib.hid (fun W => ownitem_any k it.name it.n it.hex (it.raw : Int) hs W)
  obtain ⟨k0, nm, n, x, r⟩ := it
  clear h hin hcs ha hs
  go_enter Try.func7, Try.ntmps7
  go_wp2_with fail
  refine (HI.out _ (by go_grown)).mono ?_
  rintro e w1 ⟨rfl, hb⟩
  obtain ⟨k1, k2, hB, hz⟩ := two_boxes hb
  have k1 : Blk w1 w.heap.size 26 (itC k0 nm n x (r : Int)) := k1
  obtain ⟨c0, c1, c2, c3, c4, e0, e1, e2, e3, e4⟩ := itC_cells k1
  have HB := Lib.hid hB
  have K1 := Lib.hid k1
  have K2 := Lib.hid (show Blk w1 (w.heap.size + 1) 26 (itC 0 ⟨#[]⟩ 0 false 0) from k2)
  have HZ := Lib.hid hz
  clear hb hB k1 k2 hz HI
  go_wp2_with fail
  refine (HA.out _).mono ?_
  rintro e w' ⟨rfl, rfl⟩
  have q1 : Blk (w1.setCell ⟨w.heap.size, 0, none⟩ (.int .i64 k)) w.heap.size 26 (itC k nm n x (r : Int)) := K1.out.put 0 (.int .i64 k)
  have q2 : Blk (w1.setCell ⟨w.heap.size, 0, none⟩ (.int .i64 k)) (w.heap.size + 1) 26 (itC 0 ⟨#[]⟩ 0 false 0) := K2.out.far (by simp) _
  have hz2 : (w1.setCell ⟨w.heap.size, 0, none⟩ (.int .i64 k)).heap.size = w1.heap.size := by simp [World.setCell]
  have hB2 : Below w.heap.size w (w1.setCell ⟨w.heap.size, 0, none⟩ (.int .i64 k)) := HB.out.setCell (by simp) _
  obtain ⟨p0, p1, p2, p3, p4, -⟩ := itC_cells q1
  have Q2 := Lib.hid q2
  have Z2 := Lib.hid hz2
  have B2 := Lib.hid hB2
  clear q1 q2 hz2 hB2
  go_wp2_with fail
  refine (HC.out _).mono ?_
  rintro e w2 ⟨rfl, hb2⟩
  have hlt : w.heap.size + 2 ≤ (w1.setCell ⟨w.heap.size, 0, none⟩ (.int .i64 k)).heap.size := by rw [Z2.out]; exact HZ.out
  have q4 := Q2.out.below hb2 (by omega)
  obtain ⟨d0, d1, d2, d3, d4, f0, f1, f2, f3, f4⟩ := itC_cells q4
  have HB3 := Lib.hid (B2.out.trans (hb2.mono (by omega)))
  have Q4 := Lib.hid q4
  clear hb2 q4 hlt c0 c1 c2 c3 c4 e0 e1 e2 e3 e4 p0 p1 p2 p3 p4 HA HC Q2 Z2 B2 K1 K2 HB
  go_wp2_with fail
  have hk := putAll_blk Q4.out k nm n x (r : Int)
  have hbl := putAll_below (g := w.heap.size + 1) HB3.out (by omega) k nm n x (r : Int)
  show bodyPost _ _ _ _ _ (putAll w2 (w.heap.size + 1) k nm n x (r : Int))
  generalize putAll w2 (w.heap.size + 1) k nm n x (r : Int) = W5 at hk hbl ⊢
  obtain ⟨e0, e1, e2, e3, e4, -⟩ := itC_cells hk
  clear hk
  exact bodyPost_ret (v := .tuple #[itA k nm n x (r : Int), .bool true]) (by simp [results, Try.results7, e0, e1, e2, e3, e4, go_sem]) rfl (rec_yes HE.out hbl)
end Go.Proofs.Ytllhcdkbgknjdaa
