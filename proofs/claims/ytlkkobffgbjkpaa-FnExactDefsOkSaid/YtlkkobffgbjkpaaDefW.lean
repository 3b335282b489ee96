/-
  Lists of definitions: how large one is, a copy of one, whether two are alike.
-/
import Derived.Test.YtlkkobffgbjkpaaDefs
import Derived.Test.YtlkkobffgbjkpaaBlk
import Derived.Test.YtlkkobffgbjkpaaPrimName
import Derived.Test.YtlkkobffgbjkpaaStackOp
import Derived.Deep.RegionHeld3
import Derived.Handy
namespace Go.Proofs.Ytlkkobffgbjkpaa
open Go.RowKit Go

set_option maxHeartbeats 1000000 in
/-- How much is left behind a body. -/
theorem sz_ops (A : Option Addr) (n cap : Nat) (left : Int) (h0 : 0 ≤ left) (h1 : left ≤ 1048576) (hn : n ≤ 9223372036854775807) (w : World) : Calls Try.prog 18 #[.slice A n cap, .int .i64 left] w fun e w' => (∃ z, e = .returned (.int .i64 z) ∧ (z = -1 ∨ (0 ≤ z ∧ z ≤ left ∧ n ≤ 1048576))) ∧ Below w.heap.size w w' := by
  by_cases hl : (n : Int) ≤ left
  · have hz : ¬ (left - (n : Int)) < 0 := by omega
    have HE : Hid (0 ≤ left - (n : Int) ∧ left - (n : Int) ≤ left ∧ n ≤ 1048576) := Lib.hid (by omega)
    go_enter Try.func18, Try.ntmps18
    go_wp2_with fail
    go_ret
    exact ⟨⟨_, rfl, .inr HE.out⟩, by go_grown⟩
  · have hz : (left - (n : Int)) < 0 := by omega
    have hz2 : (n : Int) ≤ 9223372036854775807 := by omega
    have hz3 : left < (n : Int) := by omega
    go_enter Try.func18, Try.ntmps18
    go_wp2_with fail
    go_ret
    exact ⟨⟨_, rfl, .inl rfl⟩, by go_grown⟩
set_option maxHeartbeats 2000000 in
theorem sz_def (nm : ByteArray) (A : Option Addr) (n cap : Nat) (left : Int) (h0 : 0 ≤ left) (h1 : left ≤ 1048576) (hs : nm.size ≤ 9223372036854775807) (hn : n ≤ 9223372036854775807) (w : World) : Calls Try.prog 53 #[.agg #[.string nm, .slice A n cap], .int .i64 left] w fun e w' => (∃ z, e = .returned (.int .i64 z) ∧ (z = -1 ∨ (0 ≤ z ∧ z ≤ left ∧ nm.size ≤ 1048576 ∧ n ≤ 1048576))) ∧ Below w.heap.size w w' := by
  obtain ⟨m, hm⟩ : ∃ m, nm.size = m := ⟨_, rfl⟩
  by_cases hl : (nm.size : Int) ≤ left
  · have hz : ¬ (left - (nm.size : Int)) < 0 := by omega
    have HC := Lib.hid (fun W => sz_ops A n cap (left - (nm.size : Int)) (by omega) (by omega) hn W)
    have HLE : Hid (nm.size ≤ 1048576) := Lib.hid (by omega)
    have HBX := Lib.hid (below_alloc1 w (.cells #[.string nm, .slice A n cap] 90))
    clear hm hn hs h0
    go_enter Try.func53, Try.ntmps53
    go_wp2_with fail
    refine (HC.out _).mono ?_
    rintro e w2 ⟨⟨z, rfl, rfl | ⟨g1, g2, g3⟩⟩, hb2⟩
    · have HB2 := Lib.hid (HBX.out.trans (hb2.mono HBX.out.size))
      clear hb2
      go_wp2_with fail
      go_ret
      exact ⟨⟨_, rfl, .inl rfl⟩, HB2.out⟩
    · have HB2 := Lib.hid (HBX.out.trans (hb2.mono HBX.out.size))
      have hz2 : ¬ z < 0 := by omega
      have HE : Hid (0 ≤ z ∧ z ≤ left ∧ nm.size ≤ 1048576 ∧ n ≤ 1048576) := Lib.hid ⟨g1, by omega, HLE.out, g3⟩
      clear hb2 g1 g2 g3
      go_wp2_with fail
      go_ret
      exact ⟨⟨_, rfl, .inr HE.out⟩, HB2.out⟩
  · have hz : (left - (nm.size : Int)) < 0 := by omega
    have hz3 : left < (nm.size : Int) := by omega
    have hz2 : (nm.size : Int) ≤ 9223372036854775807 := by omega
    clear hm hn
    go_enter Try.func53, Try.ntmps53
    go_wp2_with fail
    go_ret
    exact ⟨⟨_, rfl, .inl rfl⟩, by go_grown⟩
set_option maxHeartbeats 4000000 in
theorem sz_defs (A : Option Addr) (N cap : Nat) (hN : N ≤ 9223372036854775807) (f : Nat → ByteArray × Option Addr × Nat × Nat) (w : World) (hf : ∀ i, i < N → ∃ a, A = some a ∧ a.block < w.heap.size ∧ w.cell? (a.add (i * 2)) = some (.string (f i).1) ∧ w.cell? ((a.add (i * 2)).add 1) = some (.slice (f i).2.1 (f i).2.2.1 (f i).2.2.2) ∧ (f i).1.size ≤ 9223372036854775807 ∧ OpsIn w (f i).2.1 (f i).2.2.1 (f i).2.2.2) :
    Calls Try.prog 21 #[.slice A N cap, .int .i64 1048576] w fun e w' => (∃ z, e = .returned (.int .i64 z) ∧ (z = -1 ∨ (0 ≤ z ∧ N ≤ 1048576 ∧ ∀ i, i < N → (f i).1.size ≤ 1048576 ∧ (f i).2.2.1 ≤ 1048576))) ∧ Below w.heap.size w w' := by
  by_cases hl : N ≤ 1048576
  · have HF := Lib.hid hf
    have hz : ¬ (1048576 - (N : Int)) < 0 := by omega
    have hz2 : (N : Int) ≤ 1048576 := by omega
    clear hf hN
    go_enter Try.func21, Try.ntmps21
    go_wp2_with fail
    go_loopw [1, 5] (fun vl vi wr => ∃ (i : Nat) (left : Int), vi = .int .i64 i ∧ vl = .int .i64 left ∧ i ≤ N ∧ 0 ≤ left ∧ left ≤ 1048576 ∧ Hid (∀ j, j < i → (f j).1.size ≤ 1048576 ∧ (f j).2.2.1 ≤ 1048576) ∧ Hid (Below w.heap.size w wr)) (fun _ vi _ => N - (intOf vi).toNat)
    case atStart => exact ⟨0, _, rfl, rfl, by omega, by omega, by omega, Lib.hid (fun j hj => by omega), Lib.hid (Below.refl _ _)⟩
    case round =>
      obtain ⟨i, left, rfl, rfl, hi, hl0, hl1, HS, HB⟩ := hrel
      by_cases hp : i < N
      · obtain ⟨a, rfl, la, p0, p1, q1, q2⟩ := HF.out i hp
        obtain ⟨fn, hfn⟩ : ∃ fn, f i = fn := ⟨_, rfl⟩
        obtain ⟨nm, B, m, bc⟩ := fn
        have HFN := Lib.hid hfn
        rw [hfn] at p0 p1 q1 q2
        have p0' : wr.cell? (a.add (i * 2)) = some (.string nm) := (HB.out.cell (by rw [addr_addb]; exact la)).trans p0
        have p1' : wr.cell? ⟨(a.add (i * 2)).block, (a.add (i * 2)).off + 1, none⟩ = some (.slice B m bc) := (HB.out.cell (p := ⟨(a.add (i * 2)).block, (a.add (i * 2)).off + 1, none⟩) (by show (a.add (i * 2)).block < _; rw [addr_addb]; exact la)).trans p1
        have HC := Lib.hid (fun W => sz_def nm B m bc left hl0 hl1 q1 q2.1 W)
        have i1 : (0 : Int) ≤ (i : Int) := by omega
        have i2 : (i : Int) < (N : Int) := by omega
        clear p0 p1 q1 q2 la hfn
        go_wp2_with fail
        refine (HC.out _).mono ?_
        rintro e w2 ⟨⟨z, rfl, rfl | ⟨g1, g2, g3, g4⟩⟩, hb2⟩
        · have HB2 := Lib.hid (HB.out.trans (hb2.mono HB.out.size))
          clear hb2 HB HS
          go_wp2_with fail
          go_ret
          exact ⟨⟨_, rfl, .inl rfl⟩, HB2.out⟩
        · have HB2 := Lib.hid (HB.out.trans (hb2.mono HB.out.size))
          have hz3 : ¬ z < 0 := by omega
          have HS2 : Hid (∀ j, j < i + 1 → (f j).1.size ≤ 1048576 ∧ (f j).2.2.1 ≤ 1048576) := Lib.hid (fun j hj => by
            by_cases hji : j < i
            · exact HS.out j hji
            · obtain rfl : j = i := by omega
              rw [HFN.out]
              exact ⟨g3, g4⟩)
          have HZ : Hid (0 ≤ z ∧ z ≤ 1048576) := Lib.hid (by omega)
          clear hb2 HB HS g1 g2 g3 g4
          go_wp2_with fail
          go_roundw
          case rel => exact ⟨i + 1, z, by go_num, rfl, by omega, HZ.out.1, HZ.out.2, HS2, HB2⟩
          case measure => simp [intOf]; omega
      · obtain rfl : i = N := by omega
        go_wp2_with fail
        go_ret
        exact ⟨⟨_, rfl, .inr ⟨hl0, hl, HS.out⟩⟩, HB.out⟩
  · have hz : (1048576 - (N : Int)) < 0 := by omega
    have hz3 : (1048576 : Int) < (N : Int) := by omega
    have hz2 : (N : Int) ≤ 9223372036854775807 := by omega
    clear hf
    go_enter Try.func21, Try.ntmps21
    go_wp2_with fail
    go_ret
    exact ⟨⟨_, rfl, .inl rfl⟩, by go_grown⟩
set_option maxHeartbeats 2000000 in
theorem eq_def (nm : ByteArray) (B1 B2 : Option Addr) (m b1 b2 : Nat) (xs : List (Int × Int)) (w : World) (h1 : RdS w (.slice B1 m b1) xs) (h2 : RdS w (.slice B2 m b2) xs) : Calls Try.prog 58 #[.agg #[.string nm, .slice B1 m b1], .agg #[.string nm, .slice B2 m b2]] w fun e w' => e = .returned (.bool true) ∧ Below w.heap.size w w' := by
  have q0 : (!(nm.toList == nm.toList)) = false := by simp
  have q1 : (nm.toList == nm.toList) = true := by simp
  have hbx : Below w.heap.size w ((w.alloc (.cells #[.string nm, .slice B1 m b1] 93)).alloc (.cells #[.string nm, .slice B2 m b2] 93)) := (below_alloc1 w _).alloc (below_alloc1 w _).size _
  have HBX := Lib.hid hbx
  have HC := Lib.hid (fun W (h : Below w.heap.size w W) => eqS_same (.slice B1 m b1) (.slice B2 m b2) xs W (h1.below h) (h2.below h))
  clear hbx h1 h2
  go_enter Try.func58, Try.ntmps58
  go_wp2_with fail
  refine (HC.out _ HBX.out).mono ?_
  rintro e w2 ⟨rfl, hb2⟩
  have HB2 := Lib.hid (HBX.out.trans (hb2.mono HBX.out.size))
  clear hb2 HBX HC
  go_wp2_with fail
  go_ret
  exact ⟨rfl, HB2.out⟩
set_option maxHeartbeats 4000000 in
theorem eqD_same (a b : Value) (ds : List Df) (hl : ds.length ≤ 1048576) (w : World) (ha : RdD w a ds) (hb : RdD w b ds) :
    Calls Try.prog 25 #[a, b] w fun e w' => e = .returned (.bool true) ∧ Below w.heap.size w w' := by
  obtain ⟨A, ca, rfl⟩ := ha.form
  obtain ⟨B, cb, rfl⟩ := hb.form
  have HA := Lib.hid (fun W (h : Below w.heap.size w W) => ha.below h)
  have HB := Lib.hid (fun W (h : Below w.heap.size w W) => hb.below h)
  clear ha hb
  have hl' : ((ds.length : Int) != (ds.length : Int)) = false := by simp
  go_enter Try.func25, Try.ntmps25
  go_wp2
  go_loopw [5] (fun vi wr => ∃ i : Nat, vi = .int .i64 i ∧ i ≤ ds.length ∧ Hid (Below w.heap.size w wr)) (fun vi _ => ds.length - (intOf vi).toNat)
  case atStart => exact ⟨0, rfl, by omega, Lib.hid (Below.refl _ _)⟩
  case round =>
    obtain ⟨i, rfl, hi, HW⟩ := hrel
    by_cases hp : i < ds.length
    · obtain ⟨a, B1, m1, c1, rfl, la, p0, p1, r1, e1⟩ := (HA.out wr HW.out).item hp
      obtain ⟨b, B2, m2, c2, rfl, lb, q0, q1, r2, e2⟩ := (HB.out wr HW.out).item hp
      obtain ⟨x, hx⟩ : ∃ x, ds[i] = x := ⟨_, rfl⟩
      obtain ⟨nm, xs⟩ := x
      rw [hx] at p0 q0 r1 r2 e1 e2
      simp only at p0 q0 r1 r2 e1 e2
      obtain rfl : m1 = m2 := e1.trans e2.symm
      have R1 := Lib.hid (fun W (h : Below wr.heap.size wr W) => r1.below h)
      have R2 := Lib.hid (fun W (h : Below wr.heap.size wr W) => r2.below h)
      have LA : Hid ((a.add (i * 2)).block < wr.heap.size) := Lib.hid (by rw [addr_addb]; exact la)
      have LB : Hid ((b.add (i * 2)).block < wr.heap.size) := Lib.hid (by rw [addr_addb]; exact lb)
      have i1 : (0 : Int) ≤ (i : Int) := by omega
      have i2 : (i : Int) < (ds.length : Int) := by omega
      clear hx la lb r1 r2 e1 e2
      go_wp2_with fail
      go_region_held3 (fun w' => w'.cell? (a.add (i * 2)) = some (.string nm) ∧ w'.cell? ⟨(a.add (i * 2)).block, (a.add (i * 2)).off + 1, none⟩ = some (.slice B1 m1 c1) ∧ w'.cell? (b.add (i * 2)) = some (.string nm) ∧ w'.cell? ⟨(b.add (i * 2)).block, (b.add (i * 2)).off + 1, none⟩ = some (.slice B2 m1 c2)) (first | exact ⟨p0, p1, q0, q1⟩ | go_keep | exact ⟨(hbV.cell LA.out).trans p0, (hbV.cell (p := ⟨(a.add (i * 2)).block, (a.add (i * 2)).off + 1, none⟩) LA.out).trans p1, (hbV.cell LB.out).trans q0, (hbV.cell (p := ⟨(b.add (i * 2)).block, (b.add (i * 2)).off + 1, none⟩) LB.out).trans q1⟩) ((go_at_call 58; refine (eq_def nm B1 B2 m1 c1 c2 xs _ (by first | exact R1.out _ (Below.refl _ _) | exact R1.out _ (Below.refl _ _).drew) (by first | exact R2.out _ (Below.refl _ _) | exact R2.out _ (Below.refl _ _).drew)).mono ?_; rintro e V ⟨rfl, hbV⟩))
      have HW2 := Lib.hid (HW.out.trans (((Below.refl wr.heap.size wr).drew.trans hbV).mono HW.out.size))
      clear hbV HW p0 p1 q0 q1 R1 R2
      go_wp2_with fail
      go_roundw
      case rel => exact ⟨i + 1, by go_num, by omega, HW2⟩
      case measure => simp [intOf]; omega
    · go_wp2
      go_ret
      exact ⟨rfl, HW.out⟩
theorem own_putD {w : World} {base size : Nat} {e : TypeId} {v : Value} {n : Nat} {xs : List Value} (h : w.ownsRow base e size v n xs) {p : Addr} (hp : p.block < base) (u : Value) : (w.setCell p u).ownsRow base e size v n xs :=
  h.kept (row := some p.block) (only_setCell (World.grownBy.refl _ _) (.inl rfl) _) (.inr fun e => by have := (World.ownsRow.lt h _ e).1; omega)
set_option maxRecDepth 100000 in
set_option maxHeartbeats 4000000 in
theorem to_def (nm : ByteArray) (B : Option Addr) (m c : Nat) (xs : List (Int × Int)) (hx : xs.length ≤ 1048576) (w : World) (hr : RdS w (.slice B m c) xs) : Calls Try.prog 55 #[.agg #[.string nm, .slice B m c]] w fun e w' => ∃ v, e = .returned (.agg #[.string nm, v]) ∧ w'.ownsRow w.heap.size 75 2 v xs.length (slv xs) ∧ Below w.heap.size w w' := by
  obtain ⟨W3, hW3⟩ : ∃ W, W = (((w.alloc (.cells #[.string nm, .slice B m c] 90)).alloc (.cells #[.string ⟨#[]⟩, .slice none 0 0] 93)).alloc (.cells #[.string nm, .slice none 0 0] 93)) := ⟨_, rfl⟩
  have b1 := below_alloc1 w (.cells #[.string nm, .slice B m c] 90)
  have b2 := b1.alloc b1.size (.cells #[.string ⟨#[]⟩, .slice none 0 0] 93)
  have b3 := b2.alloc b2.size (.cells #[.string nm, .slice none 0 0] 93)
  have k2 := (Blk.new (w.alloc (.cells #[.string nm, .slice B m c] 90)) 93 #[.string ⟨#[]⟩, .slice none 0 0]).alloc (.cells #[.string nm, .slice none 0 0] 93)
  have k3 := Blk.new ((w.alloc (.cells #[.string nm, .slice B m c] 90)).alloc (.cells #[.string ⟨#[]⟩, .slice none 0 0] 93)) 93 #[.string nm, .slice none 0 0]
  rw [← hW3] at b3 k2 k3
  rw [World.size_alloc] at k2 k3
  rw [World.size_alloc] at k3
  have hsz3 : W3.heap.size = w.heap.size + 3 := by rw [hW3, World.size_alloc, World.size_alloc, World.size_alloc]
  have HW3 := Lib.hid hW3
  have B3 := Lib.hid b3
  have K2 := Lib.hid k2
  have K3 := Lib.hid k3
  have HS3 := Lib.hid hsz3
  have HC := Lib.hid (toS_any (.slice B m c) xs (by omega) W3 (hr.below b3))
  clear hr hW3 b1 b2 b3 k2 k3 hsz3
  go_enter Try.func55, Try.ntmps55
  go_wp2_with fail
  rw [← HW3.out]
  refine HC.out.mono ?_
  rintro e w4 ⟨v4, rfl, ho4, hb4⟩
  obtain ⟨D, dc, rfl⟩ := own_formS ho4
  have q2 := K2.out.below hb4 K2.out.lt
  have q3 := K3.out.below hb4 K3.out.lt
  have p3_0 : w4.cell? ⟨w.heap.size + 1 + 1, 0, none⟩ = some (.string nm) := q3.cell 0
  have p3_1 : w4.cell? ⟨w.heap.size + 1 + 1, 1, none⟩ = some (.slice none 0 0) := q3.cell 1
  have p2_0 : w4.cell? ⟨w.heap.size + 1, 0, none⟩ = some (.string ⟨#[]⟩) := q2.cell 0
  have p2_1 : w4.cell? ⟨w.heap.size + 1, 1, none⟩ = some (.slice none 0 0) := q2.cell 1
  have f3 := q3.frozen
  have f2 := q2.frozen
  have l3 := q3.lt
  have Q2 := Lib.hid q2
  have HO4 := Lib.hid ho4
  have B4 := Lib.hid (B3.out.trans (hb4.mono B3.out.size))
  clear ho4 hb4 q2 q3 HC
  go_wp2_with fail
  have r2 : Blk (((w4.setCell ⟨w.heap.size + 1 + 1, 1, none⟩ (.slice D xs.length dc)).setCell ⟨w.heap.size + 1, 0, none⟩ (.string nm)).setCell ⟨w.heap.size + 1, 1, none⟩ (.slice D xs.length dc)) (w.heap.size + 1) 93 #[.string nm, .slice D xs.length dc] := by
    have := ((Q2.out.far (p := ⟨w.heap.size + 1 + 1, 1, none⟩) (show w.heap.size + 1 ≠ w.heap.size + 1 + 1 by omega) (.slice D xs.length dc)).put 0 (.string nm)).put 1 (.slice D xs.length dc)
    simpa using this
  have o5 := own_putD (own_putD (own_putD HO4.out (p := ⟨w.heap.size + 1 + 1, 1, none⟩) (show w.heap.size + 1 + 1 < W3.heap.size by rw [HS3.out]; omega) (.slice D xs.length dc)) (p := ⟨w.heap.size + 1, 0, none⟩) (show w.heap.size + 1 < W3.heap.size by rw [HS3.out]; omega) (.string nm)) (p := ⟨w.heap.size + 1, 1, none⟩) (show w.heap.size + 1 < W3.heap.size by rw [HS3.out]; omega) (.slice D xs.length dc)
  have b5 := ((B4.out.setCell (p := ⟨w.heap.size + 1 + 1, 1, none⟩) (show w.heap.size ≤ w.heap.size + 1 + 1 by omega) (.slice D xs.length dc)).setCell (p := ⟨w.heap.size + 1, 0, none⟩) (show w.heap.size ≤ w.heap.size + 1 by omega) (.string nm)).setCell (p := ⟨w.heap.size + 1, 1, none⟩) (show w.heap.size ≤ w.heap.size + 1 by omega) (.slice D xs.length dc)
  have hle : w.heap.size ≤ W3.heap.size := by rw [HS3.out]; omega
  clear p3_0 p3_1 p2_0 p2_1 f2 f3 l3
  show bodyPost _ _ _ _ _ (((w4.setCell ⟨w.heap.size + 1 + 1, 1, none⟩ (.slice D xs.length dc)).setCell ⟨w.heap.size + 1, 0, none⟩ (.string nm)).setCell ⟨w.heap.size + 1, 1, none⟩ (.slice D xs.length dc))
  generalize (((w4.setCell ⟨w.heap.size + 1 + 1, 1, none⟩ (.slice D xs.length dc)).setCell ⟨w.heap.size + 1, 0, none⟩ (.string nm)).setCell ⟨w.heap.size + 1, 1, none⟩ (.slice D xs.length dc)) = W5 at r2 o5 b5 ⊢
  have z0 : W5.cell? ⟨w.heap.size + 1, 0, none⟩ = some (.string nm) := r2.cell 0
  have z1 : W5.cell? ⟨w.heap.size + 1, 1, none⟩ = some (.slice D xs.length dc) := r2.cell 1
  exact bodyPost_ret (v := .agg #[.string nm, .slice D xs.length dc]) (by simp [results, Try.results55, z0, z1, go_sem]) rfl ⟨_, rfl, o5.mono hle, b5⟩
theorem infoD : (Try.prog.info? 93).map (fun i => (i.zero, i.size, i.bytes)) = some (some (.agg #[.string ⟨#[]⟩, .slice none 0 0]), 2, 40) := by kernel_rfl
theorem made_dfv (n : Nat) : (madeCells #[Value.string ⟨#[]⟩, Value.slice none 0 0] (n * 2)).toList = dfv (List.replicate n (⟨#[]⟩, Value.slice none 0 0)) := by
  refine List.ext_getElem (by simp [madeCells, dfv_len]) fun i h1 h2 => ?_
  have h3 : i < n * 2 := by simpa [madeCells] using h1
  obtain ⟨j, hj⟩ : ∃ j, i = j * 2 ∨ i = j * 2 + 1 := ⟨i / 2, by omega⟩
  rcases hj with rfl | rfl
  · have := dfv_get0 (xs := List.replicate n (⟨#[]⟩, Value.slice none 0 0)) (i := j) (by simp; omega)
    rw [List.getElem?_eq_getElem h2] at this
    rw [Option.some.inj this]
    simp [madeCells]
  · have := dfv_get1 (xs := List.replicate n (⟨#[]⟩, Value.slice none 0 0)) (i := j) (by simp; omega)
    rw [List.getElem?_eq_getElem h2] at this
    rw [Option.some.inj this]
    have e : (j * 2 + 1) % 2 = 1 := by omega
    simp [madeCells, e]
/-- So many definitions as they are laid first. -/
abbrev zdf (n : Nat) : List (ByteArray × Value) := List.replicate n (⟨#[]⟩, Value.slice none 0 0)
theorem zdf_set {ps : List (ByteArray × Value)} {N i : Nat} (hl : ps.length = i) (hi : i < N) (s : ByteArray × Value) : (ps ++ zdf (N - i)).set i s = (ps ++ [s]) ++ zdf (N - (i + 1)) := by
  obtain ⟨m, hm⟩ : ∃ m, N - i = m + 1 := ⟨N - i - 1, by omega⟩
  rw [hm, show N - (i + 1) = m by omega]
  unfold zdf
  rw [List.replicate_succ, List.set_append_right _ _ (by omega), hl, Nat.sub_self, List.set_cons_zero, List.append_assoc]
  rfl
set_option maxRecDepth 100000 in
set_option maxHeartbeats 8000000 in
theorem toD_any (v : Value) (ds : List Df) (hs : SmD ds) (W : World) (ha : RdD W v ds) : Calls Try.prog 23 #[v] W (NewD W ds) := by
  obtain ⟨i0, hi, hz0, hz1, hz2⟩ := info_parts infoD
  obtain ⟨A, ca, rfl⟩ := ha.form
  have HA := Lib.hid (fun w (h : Below W.heap.size W w) => ha.below h)
  have HSM := Lib.hid hs.2
  have hN := hs.1
  clear ha hs
  go_enter Try.func23, Try.ntmps23
  go_wp2_with (refine wpList_make_full _ rfl _ _ _ rfl W.heap.size 93 i0 (.agg #[.string ⟨#[]⟩, .slice none 0 0]) 2 Try.underlying39 hi hz0 hz1 .i64 .i64 _ _ ds.length rfl rfl rfl rfl (by rw [hz2]; omega) (by unfold maxLen; omega) (Nat.le_refl _) ?_; intro w1 hown hgr)
  have hb1 : Below W.heap.size W w1 := (Below.refl _ _).grown hgr (Nat.le_refl _) (fun k hk => by cases hk)
  have hown1 : w1.ownsRow W.heap.size 93 2 (.slice (some ⟨W.heap.size, 0, none⟩) ds.length ds.length) ds.length (dfv (([] : List (ByteArray × Value)) ++ zdf (ds.length - 0))) := by
    have e : (madeCells (Value.agg #[Value.string ⟨#[]⟩, Value.slice none 0 0]).cells (ds.length * 2)).toList = dfv (([] : List (ByteArray × Value)) ++ zdf (ds.length - 0)) := made_dfv _
    rw [e] at hown
    exact hown
  have HB1 := Lib.hid hb1
  have HOWN1 := Lib.hid hown1
  clear hown hgr hb1 hown1
  go_loopw [4] (fun vi wr => ∃ (i : Nat) (ps : List (ByteArray × Value)), vi = .int .i64 i ∧ i ≤ ds.length ∧ ps.length = i ∧ Hid (wr.ownsRow W.heap.size 93 2 (.slice (some ⟨W.heap.size, 0, none⟩) ds.length ds.length) ds.length (dfv (ps ++ zdf (ds.length - i)))) ∧ Hid (∀ j (h : j < ps.length) (h2 : j < ds.length), ps[j].1 = ds[j].1 ∧ wr.ownsRow (W.heap.size + 1) 75 2 ps[j].2 ds[j].2.length (slv ds[j].2)) ∧ Hid (Below W.heap.size W wr)) (fun vi _ => ds.length - (intOf vi).toNat)
  case atStart => exact ⟨0, [], rfl, by omega, rfl, HOWN1, Lib.hid (fun j h => by simp at h), HB1⟩
  case round =>
    clear HOWN1 HB1
    obtain ⟨i, ps, rfl, hi2, hpl, HO, HP, HB⟩ := hrel
    by_cases hp : i < ds.length
    · obtain ⟨ga, B, m, c, rfl, -, c0, c1, r0, em⟩ := (HA.out wr HB.out).item hp
      obtain ⟨x, hx'⟩ : ∃ x, ds[i] = x := ⟨_, rfl⟩
      obtain ⟨nm, xs⟩ := x
      have HX := Lib.hid hx'
      have hxl := (HSM.out ds[i] (List.getElem_mem hp)).2.1
      rw [hx'] at c0 r0 em hxl
      simp only at c0 r0 em hxl
      have HC := Lib.hid (to_def nm B m c xs hxl wr r0)
      have HPL := Lib.hid hpl
      have i1 : (0 : Int) ≤ (i : Int) := by omega
      have i2 : (i : Int) < (ds.length : Int) := by omega
      clear hx' r0 em hxl hpl
      go_wp2_with fail
      refine HC.out.mono ?_
      rintro e w2 ⟨vb, rfl, hob, hb2⟩
      obtain ⟨D, dc, rfl⟩ := own_formS hob
      have hsz : W.heap.size + 1 ≤ wr.heap.size := (World.ownsRow.lt HO.out W.heap.size (by simp [Value.ownBlock])).2
      have HB2 := Lib.hid (HB.out.trans (hb2.mono HB.out.size))
      have HO2 := Lib.hid (HO.out.kept (only_of_below hb2 none) (by simp [Value.ownBlock]))
      have HOB := Lib.hid (hob.mono hsz)
      have HP2 : Hid (∀ j (h : j < ps.length) (h2 : j < ds.length), ps[j].1 = ds[j].1 ∧ w2.ownsRow (W.heap.size + 1) 75 2 ps[j].2 ds[j].2.length (slv ds[j].2)) := Lib.hid (fun j h h2 => ⟨(HP.out j h h2).1, (HP.out j h h2).2.kept (only_of_below hb2 none) (by cases ps[j].2.ownBlock <;> simp)⟩)
      obtain ⟨u0, d0⟩ : ∃ u, w2.cell? ⟨W.heap.size, i * 2, none⟩ = some u := ⟨_, (HO2.out.cellAt (i * 2) (by omega)).trans (dfv_get0 (by simp [HPL.out]; omega))⟩
      obtain ⟨u1, d1⟩ : ∃ u, w2.cell? ⟨W.heap.size, i * 2 + 1, none⟩ = some u := ⟨_, (HO2.out.cellAt (i * 2 + 1) (by omega)).trans (dfv_get1 (by simp [HPL.out]; omega))⟩
      have f0 := HO2.out.frozenAt (i * 2)
      have f1 := HO2.out.frozenAt (i * 2 + 1)
      have s1 := HO2.out.stored (i * 2) (.string nm)
      have s2 := s1.1.stored (i * 2 + 1) (.slice D xs.length dc)
      have hs := s2.1
      have hcs := dfv_set (xs := ps ++ zdf (ds.length - i)) (i := i) (by simp [HPL.out]; omega) (nm, .slice D xs.length dc)
      rw [zdf_set HPL.out hp] at hcs
      simp only at hcs
      rw [hcs] at hs
      have HS := Lib.hid hs
      have HG2 := Lib.hid (only_trans s1.2 s2.2)
      clear s1 s2 hs HO HB hb2 hcs HO2 c0 c1 hob HP
      go_wp2_with fail
      go_roundw
      case rel => exact ⟨i + 1, ps ++ [(nm, .slice D xs.length dc)], by go_num, by omega, by rw [List.length_append, HPL.out]; rfl, HS, Lib.hid (fun j h h2 => by
        by_cases hj : j < ps.length
        · rw [List.getElem_append_left hj]
          refine ⟨(HP2.out j hj h2).1, (HP2.out j hj h2).2.kept HG2.out ?_⟩
          rcases hob2 : ps[j].2.ownBlock with _ | k
          · exact .inl rfl
          · refine .inr (fun e => ?_)
            have := (World.ownsRow.lt (HP2.out j hj h2).2 k hob2).1
            injection e with e
            omega
        · obtain rfl : j = i := by simp at h; have := HPL.out; omega
          have e1 : (ps ++ [(nm, Value.slice D xs.length dc)])[j]'h = (nm, Value.slice D xs.length dc) := by
            rw [List.getElem_append_right (by have := HPL.out; omega)]
            simp [HPL.out]
          rw [e1, HX.out]
          refine ⟨rfl, HOB.out.kept HG2.out ?_⟩
          rcases hob2 : (Value.slice D xs.length dc).ownBlock with _ | k
          · exact .inl rfl
          · refine .inr (fun e => ?_)
            have := (World.ownsRow.lt HOB.out k hob2).1
            injection e with e
            omega), Lib.hid (HB2.out.grown HG2.out HB2.out.size (fun k hk => by injection hk with hk; omega))⟩
      case measure => simp [intOf]; omega
    · obtain rfl : i = ds.length := by omega
      have HPL := Lib.hid hpl
      have HRES : Hid (RdD wr (.slice (some ⟨W.heap.size, 0, none⟩) ds.length ds.length) ds) := Lib.hid (by
        refine ⟨_, _, rfl, fun j hj => ⟨⟨W.heap.size, 0, none⟩, ps[j]'(by have := HPL.out; omega) |>.2, rfl, ?_, ?_, ?_, ?_⟩⟩
        · exact (World.ownsRow.lt HO.out W.heap.size (by simp [Value.ownBlock])).2
        · have h1 := HO.out.cellAt (j * 2) (by omega)
          rw [dfv_get0 (by simp [HPL.out]; omega)] at h1
          rw [addr_lit, Nat.zero_add, h1, List.getElem_append_left (by have := HPL.out; omega), (HP.out j _ hj).1]
        · have h1 := HO.out.cellAt (j * 2 + 1) (by omega)
          rw [dfv_get1 (by simp [HPL.out]; omega)] at h1
          rw [addr_lit, Nat.zero_add, addr_lit, h1, List.getElem_append_left (by have := HPL.out; omega)]
        · exact RdS.of_own (HP.out j (by have := HPL.out; omega) hj).2 (by have := (HSM.out ds[j] (List.getElem_mem hj)).2.1; omega))
      clear HO HP hpl
      go_wp2_with fail
      go_ret
      exact ⟨_, rfl, HRES.out, HB.out⟩
end Go.Proofs.Ytlkkobffgbjkpaa
