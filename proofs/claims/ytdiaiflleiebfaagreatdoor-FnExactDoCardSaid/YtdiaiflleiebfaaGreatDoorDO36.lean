/-
  The words that only move numbers, on a bench.
  The words that reckon, on a bench.
  The word that turns bits, on a bench.
  The word /mod on a bench.
-/
import Derived.Test.YtdiaiflleiebfaaGreatDoorDO20
import Derived.Test.YtdiaiflleiebfaaGreatDoorDO21
import Derived.Deep.RegionWith
import Derived.IntWalk
namespace Go.Proofs.YtdiaiflleiebfaaGreatDoor
open Go.RowKit Go

theorem same_dup {S : S8} {n : Nat} {y : Int} (hn : S.data.length = n + 1) (hy : S.data.getD n 0 = y) : (S.data.take n ++ [y, y]).take S.data.length = S.data ∧ S.data.length ≤ n + 2 := by
  have h := top_get hn
  rw [hy] at h
  refine ⟨?_, by omega⟩
  have e : S.data.take n ++ [y, y] = S.data ++ [y] := by rw [show [y, y] = [y] ++ [y] from rfl, ← List.append_assoc, ← h]
  rw [e]
  simp
theorem same_over {S : S8} {n : Nat} {x y : Int} (hn : S.data.length = n + 2) (hy : S.data.getD (n + 1) 0 = y) (hx : S.data.getD n 0 = x) : (S.data.take n ++ [x, y, x]).take S.data.length = S.data ∧ S.data.length ≤ n + 3 := by
  have h := top_get (n := n + 1) hn
  rw [hy] at h
  have h2 : S.data.take (n + 1) = S.data.take n ++ [x] := by
    rw [List.take_succ_eq_append_getElem (by omega), ← hx]
    simp [List.getD, List.getElem?_eq_getElem (show n < S.data.length by omega)]
  refine ⟨?_, by omega⟩
  have e : S.data.take n ++ [x, y, x] = S.data ++ [x] := by
    rw [show [x, y, x] = [x] ++ ([y] ++ [x]) from rfl, ← List.append_assoc, ← h2, ← List.append_assoc, ← h]
  rw [e]
  simp
set_option maxRecDepth 100000 in
set_option maxHeartbeats 1000000 in
theorem bw_dup (d r m c v o i : Value) (S : S8) (g lo hi : Nat) (w : World) (ht : 1 ≤ S.data.length) (h16 : S.data.length ≤ 16) (hhi : hi ≤ w.heap.size) (hlo : lo ≤ hi) (ho : OwnSt w lo hi d r m c v o i S) (hB : Blk w g 152 #[d, r, .int .i32 S.a, m, c, v, o, i, .int .i64 S.fault, .int .i64 S.fuel]) :
    Calls Tryz.prog 114 #[.pointer (some ⟨g, 0, none⟩)] w (BenchEnd w g lo hi d r m c v o i S (put8 S 1 [top8 S 0, top8 S 0])) := by
  obtain ⟨A, cap, rfl⟩ := own_form ho.d
  obtain ⟨n, hn⟩ : ∃ n, S.data.length = n + 1 := ⟨S.data.length - 1, by omega⟩
  have T0 : Hid (Taken w w g lo hi A (n + 1) cap (.slice A S.data.length cap) r m c v o i S) := Lib.hid (by have h := Taken.start hhi hlo ho hB; exact ⟨rfl, by omega, hhi, hlo, h.chg, h.own, by rw [← hn]; exact hB⟩)
  have H16 := Lib.hid h16
  have HN : Hid (S.data.length = n + 1) := Lib.hid hn
  have h18 : n + 1 ≤ 16 := by omega
  clear ho hB hhi hlo h16 ht hn
  obtain ⟨q0, hA0, hc0, hy0⟩ := T0.out.cell
  subst hA0
  obtain ⟨y, hy⟩ : ∃ y, S.data.getD (n) 0 = y := ⟨_, rfl⟩
  rw [hy] at hy0
  have Hy : Hid (S.data.getD (n) 0 = y) := Lib.hid hy
  have HK0 := Lib.hid (take_any g q0 (n) cap y _ _ _ _ _ _ _ _ _ w (by omega) hc0 T0.out.box hy0)
  clear hy hy0 hc0
  go_enter Tryz.func114, Tryz.ntmps114
  go_wp2_with fail
  refine HK0.out.mono ?_
  rintro e w1 ⟨rfl, hw⟩
  have T1 : Hid (Taken w w1 g lo hi (some ⟨q0, 0, none⟩) (n) cap (.slice (some ⟨q0, 0, none⟩) S.data.length cap) r m c v o i S) := Lib.hid (by rw [hw]; exact T0.out.step)
  clear hw HK0
  have HL : Hid (put8 S 1 [y, y] = put8 S 1 [top8 S 0, top8 S 0]) := Lib.hid (by unfold top8; rw [HN.out, ← Hy.out]; rfl)
  go_wp2_with fail
  refine (tell_end (t := 1) (l := [y, y]) T1.out (by rw [HN.out]; rfl) H16.out (by simp) (fun h => same_dup HN.out Hy.out)).mono ?_
  intro e w9 hE
  rw [HL.out] at hE
  obtain ⟨z, rfl⟩ := hE.ret
  have HE := Lib.hid hE
  clear hE
  go_wp2_with fail
  go_ret
  exact HE.out
set_option maxRecDepth 100000 in
set_option maxHeartbeats 1000000 in
theorem bw_over (d r m c v o i : Value) (S : S8) (g lo hi : Nat) (w : World) (ht : 2 ≤ S.data.length) (h16 : S.data.length ≤ 16) (hhi : hi ≤ w.heap.size) (hlo : lo ≤ hi) (ho : OwnSt w lo hi d r m c v o i S) (hB : Blk w g 152 #[d, r, .int .i32 S.a, m, c, v, o, i, .int .i64 S.fault, .int .i64 S.fuel]) :
    Calls Tryz.prog 116 #[.pointer (some ⟨g, 0, none⟩)] w (BenchEnd w g lo hi d r m c v o i S (put8 S 2 [top8 S 1, top8 S 0, top8 S 1])) := by
  obtain ⟨A, cap, rfl⟩ := own_form ho.d
  obtain ⟨n, hn⟩ : ∃ n, S.data.length = n + 2 := ⟨S.data.length - 2, by omega⟩
  have T0 : Hid (Taken w w g lo hi A (n + 1 + 1) cap (.slice A S.data.length cap) r m c v o i S) := Lib.hid (by have h := Taken.start hhi hlo ho hB; exact ⟨rfl, by omega, hhi, hlo, h.chg, h.own, by rw [← hn]; exact hB⟩)
  have H16 := Lib.hid h16
  have HN : Hid (S.data.length = n + 2) := Lib.hid hn
  have h18 : n + 2 ≤ 16 := by omega
  clear ho hB hhi hlo h16 ht hn
  obtain ⟨q0, hA0, hc0, hy0⟩ := T0.out.cell
  subst hA0
  obtain ⟨y, hy⟩ : ∃ y, S.data.getD (n + 1) 0 = y := ⟨_, rfl⟩
  rw [hy] at hy0
  have Hy : Hid (S.data.getD (n + 1) 0 = y) := Lib.hid hy
  have HK0 := Lib.hid (take_any g q0 (n + 1) cap y _ _ _ _ _ _ _ _ _ w (by omega) hc0 T0.out.box hy0)
  clear hy hy0 hc0
  go_enter Tryz.func116, Tryz.ntmps116
  go_wp2_with fail
  refine HK0.out.mono ?_
  rintro e w1 ⟨rfl, hw⟩
  have T1 : Hid (Taken w w1 g lo hi (some ⟨q0, 0, none⟩) (n + 1) cap (.slice (some ⟨q0, 0, none⟩) S.data.length cap) r m c v o i S) := Lib.hid (by rw [hw]; exact T0.out.step)
  clear hw HK0
  obtain ⟨q1, hA1, hc1, hy1⟩ := T1.out.cell
  injection hA1 with hA1
  injection hA1 with hA1
  subst hA1
  obtain ⟨x, hx⟩ : ∃ x, S.data.getD (n) 0 = x := ⟨_, rfl⟩
  rw [hx] at hy1
  have Hx : Hid (S.data.getD (n) 0 = x) := Lib.hid hx
  have HK1 := Lib.hid (take_any g q0 (n) cap x _ _ _ _ _ _ _ _ _ w1 (by omega) hc1 T1.out.box hy1)
  clear hx hy1 hc1
  go_wp2_with fail
  refine HK1.out.mono ?_
  rintro e w2 ⟨rfl, hw⟩
  have T2 : Hid (Taken w w2 g lo hi (some ⟨q0, 0, none⟩) (n) cap (.slice (some ⟨q0, 0, none⟩) S.data.length cap) r m c v o i S) := Lib.hid (by rw [hw]; exact T1.out.step)
  clear hw HK1
  have HL : Hid (put8 S 2 [x, y, x] = put8 S 2 [top8 S 1, top8 S 0, top8 S 1]) := Lib.hid (by unfold top8; rw [HN.out, ← Hy.out, ← Hx.out]; rfl)
  go_wp2_with fail
  refine (tell_end (t := 2) (l := [x, y, x]) T2.out (by rw [HN.out]; rfl) H16.out (by simp) (fun h => same_over HN.out Hy.out Hx.out)).mono ?_
  intro e w9 hE
  rw [HL.out] at hE
  obtain ⟨z, rfl⟩ := hE.ret
  have HE := Lib.hid hE
  clear hE
  go_wp2_with fail
  go_ret
  exact HE.out
set_option maxRecDepth 100000 in
set_option maxHeartbeats 1000000 in
theorem bw_nip (d r m c v o i : Value) (S : S8) (g lo hi : Nat) (w : World) (ht : 2 ≤ S.data.length) (h16 : S.data.length ≤ 16) (hhi : hi ≤ w.heap.size) (hlo : lo ≤ hi) (ho : OwnSt w lo hi d r m c v o i S) (hB : Blk w g 152 #[d, r, .int .i32 S.a, m, c, v, o, i, .int .i64 S.fault, .int .i64 S.fuel]) :
    Calls Tryz.prog 117 #[.pointer (some ⟨g, 0, none⟩)] w (BenchEnd w g lo hi d r m c v o i S (put8 S 2 [top8 S 0])) := by
  obtain ⟨A, cap, rfl⟩ := own_form ho.d
  obtain ⟨n, hn⟩ : ∃ n, S.data.length = n + 2 := ⟨S.data.length - 2, by omega⟩
  have T0 : Hid (Taken w w g lo hi A (n + 1 + 1) cap (.slice A S.data.length cap) r m c v o i S) := Lib.hid (by have h := Taken.start hhi hlo ho hB; exact ⟨rfl, by omega, hhi, hlo, h.chg, h.own, by rw [← hn]; exact hB⟩)
  have H16 := Lib.hid h16
  have HN : Hid (S.data.length = n + 2) := Lib.hid hn
  have h18 : n + 2 ≤ 16 := by omega
  clear ho hB hhi hlo h16 ht hn
  obtain ⟨q0, hA0, hc0, hy0⟩ := T0.out.cell
  subst hA0
  obtain ⟨y, hy⟩ : ∃ y, S.data.getD (n + 1) 0 = y := ⟨_, rfl⟩
  rw [hy] at hy0
  have Hy : Hid (S.data.getD (n + 1) 0 = y) := Lib.hid hy
  have HK0 := Lib.hid (take_any g q0 (n + 1) cap y _ _ _ _ _ _ _ _ _ w (by omega) hc0 T0.out.box hy0)
  clear hy hy0 hc0
  go_enter Tryz.func117, Tryz.ntmps117
  go_wp2_with fail
  refine HK0.out.mono ?_
  rintro e w1 ⟨rfl, hw⟩
  have T1 : Hid (Taken w w1 g lo hi (some ⟨q0, 0, none⟩) (n + 1) cap (.slice (some ⟨q0, 0, none⟩) S.data.length cap) r m c v o i S) := Lib.hid (by rw [hw]; exact T0.out.step)
  clear hw HK0
  obtain ⟨q1, hA1, hc1, hy1⟩ := T1.out.cell
  injection hA1 with hA1
  injection hA1 with hA1
  subst hA1
  obtain ⟨x, hx⟩ : ∃ x, S.data.getD (n) 0 = x := ⟨_, rfl⟩
  rw [hx] at hy1
  have Hx : Hid (S.data.getD (n) 0 = x) := Lib.hid hx
  have HK1 := Lib.hid (take_any g q0 (n) cap x _ _ _ _ _ _ _ _ _ w1 (by omega) hc1 T1.out.box hy1)
  clear hx hy1 hc1
  go_wp2_with fail
  refine HK1.out.mono ?_
  rintro e w2 ⟨rfl, hw⟩
  have T2 : Hid (Taken w w2 g lo hi (some ⟨q0, 0, none⟩) (n) cap (.slice (some ⟨q0, 0, none⟩) S.data.length cap) r m c v o i S) := Lib.hid (by rw [hw]; exact T1.out.step)
  clear hw HK1
  have HL : Hid (put8 S 2 [y] = put8 S 2 [top8 S 0]) := Lib.hid (by unfold top8; rw [HN.out, ← Hy.out]; rfl)
  go_wp2_with fail
  refine (tell_end (t := 2) (l := [y]) T2.out (by rw [HN.out]; rfl) H16.out (by simp) (fun h => absurd h (by have h1 := H16.out; have h2 := HN.out; simp; omega))).mono ?_
  intro e w9 hE
  rw [HL.out] at hE
  obtain ⟨z, rfl⟩ := hE.ret
  have HE := Lib.hid hE
  clear hE
  go_wp2_with fail
  go_ret
  exact HE.out
set_option maxRecDepth 100000 in
set_option maxHeartbeats 1000000 in
theorem bw_swap (d r m c v o i : Value) (S : S8) (g lo hi : Nat) (w : World) (ht : 2 ≤ S.data.length) (h16 : S.data.length ≤ 16) (hhi : hi ≤ w.heap.size) (hlo : lo ≤ hi) (ho : OwnSt w lo hi d r m c v o i S) (hB : Blk w g 152 #[d, r, .int .i32 S.a, m, c, v, o, i, .int .i64 S.fault, .int .i64 S.fuel]) :
    Calls Tryz.prog 118 #[.pointer (some ⟨g, 0, none⟩)] w (BenchEnd w g lo hi d r m c v o i S (put8 S 2 [top8 S 0, top8 S 1])) := by
  obtain ⟨A, cap, rfl⟩ := own_form ho.d
  obtain ⟨n, hn⟩ : ∃ n, S.data.length = n + 2 := ⟨S.data.length - 2, by omega⟩
  have T0 : Hid (Taken w w g lo hi A (n + 1 + 1) cap (.slice A S.data.length cap) r m c v o i S) := Lib.hid (by have h := Taken.start hhi hlo ho hB; exact ⟨rfl, by omega, hhi, hlo, h.chg, h.own, by rw [← hn]; exact hB⟩)
  have H16 := Lib.hid h16
  have HN : Hid (S.data.length = n + 2) := Lib.hid hn
  have h18 : n + 2 ≤ 16 := by omega
  clear ho hB hhi hlo h16 ht hn
  obtain ⟨q0, hA0, hc0, hy0⟩ := T0.out.cell
  subst hA0
  obtain ⟨y, hy⟩ : ∃ y, S.data.getD (n + 1) 0 = y := ⟨_, rfl⟩
  rw [hy] at hy0
  have Hy : Hid (S.data.getD (n + 1) 0 = y) := Lib.hid hy
  have HK0 := Lib.hid (take_any g q0 (n + 1) cap y _ _ _ _ _ _ _ _ _ w (by omega) hc0 T0.out.box hy0)
  clear hy hy0 hc0
  go_enter Tryz.func118, Tryz.ntmps118
  go_wp2_with fail
  refine HK0.out.mono ?_
  rintro e w1 ⟨rfl, hw⟩
  have T1 : Hid (Taken w w1 g lo hi (some ⟨q0, 0, none⟩) (n + 1) cap (.slice (some ⟨q0, 0, none⟩) S.data.length cap) r m c v o i S) := Lib.hid (by rw [hw]; exact T0.out.step)
  clear hw HK0
  obtain ⟨q1, hA1, hc1, hy1⟩ := T1.out.cell
  injection hA1 with hA1
  injection hA1 with hA1
  subst hA1
  obtain ⟨x, hx⟩ : ∃ x, S.data.getD (n) 0 = x := ⟨_, rfl⟩
  rw [hx] at hy1
  have Hx : Hid (S.data.getD (n) 0 = x) := Lib.hid hx
  have HK1 := Lib.hid (take_any g q0 (n) cap x _ _ _ _ _ _ _ _ _ w1 (by omega) hc1 T1.out.box hy1)
  clear hx hy1 hc1
  go_wp2_with fail
  refine HK1.out.mono ?_
  rintro e w2 ⟨rfl, hw⟩
  have T2 : Hid (Taken w w2 g lo hi (some ⟨q0, 0, none⟩) (n) cap (.slice (some ⟨q0, 0, none⟩) S.data.length cap) r m c v o i S) := Lib.hid (by rw [hw]; exact T1.out.step)
  clear hw HK1
  have HL : Hid (put8 S 2 [y, x] = put8 S 2 [top8 S 0, top8 S 1]) := Lib.hid (by unfold top8; rw [HN.out, ← Hy.out, ← Hx.out]; rfl)
  go_wp2_with fail
  refine (tell_end (t := 2) (l := [y, x]) T2.out (by rw [HN.out]; rfl) H16.out (by simp) (fun h => absurd h (by have h1 := H16.out; have h2 := HN.out; simp; omega))).mono ?_
  intro e w9 hE
  rw [HL.out] at hE
  obtain ⟨z, rfl⟩ := hE.ret
  have HE := Lib.hid hE
  clear hE
  go_wp2_with fail
  go_ret
  exact HE.out
set_option maxRecDepth 100000 in
set_option maxHeartbeats 1000000 in
theorem bw_tellA (d r m c v o i : Value) (S : S8) (g lo hi : Nat) (w : World) (_ht : 0 ≤ S.data.length) (h16 : S.data.length ≤ 16) (hhi : hi ≤ w.heap.size) (hlo : lo ≤ hi) (ho : OwnSt w lo hi d r m c v o i S) (hB : Blk w g 152 #[d, r, .int .i32 S.a, m, c, v, o, i, .int .i64 S.fault, .int .i64 S.fuel]) :
    Calls Tryz.prog 129 #[.pointer (some ⟨g, 0, none⟩)] w (BenchEnd w g lo hi d r m c v o i S (put8 S 0 [S.a])) := by
  obtain ⟨A, cap, rfl⟩ := own_form ho.d
  have T0 := Lib.hid (Taken.start hhi hlo ho hB)
  have H16 := Lib.hid h16
  have HN : Hid (S.data.length = S.data.length) := Lib.hid rfl
  obtain ⟨p0, p1, p2, p3, p4, p5, p6, p7, p8, p9⟩ := st_cells hB
  clear ho hB hhi hlo h16 _ht
  go_enter Tryz.func129, Tryz.ntmps129
  go_wp2_with fail
  refine (tell_end (t := 0) (l := [S.a]) T0.out (Nat.sub_zero _) H16.out (by simp) (fun _ => same_add rfl)).mono ?_
  intro e w9 hE
  obtain ⟨z, rfl⟩ := hE.ret
  have HE := Lib.hid hE
  clear hE
  go_wp2_with fail
  go_ret
  exact HE.out
end Go.Proofs.YtdiaiflleiebfaaGreatDoor

namespace Go.Proofs.YtdiaiflleiebfaaGreatDoor
open Go.RowKit Go

theorem bits_and_comm (x y : Int) : bits .and .i32 x y = bits .and .i32 y x := by unfold bits; simp only [BitVec.and_comm]
theorem bits_xor_comm (x y : Int) : bits .xor .i32 x y = bits .xor .i32 y x := by unfold bits; simp only [BitVec.xor_comm]
theorem bits_not (y : Int) (h1 : -2147483648 ≤ y) (h2 : y ≤ 2147483647) : bits .xor .i32 (-1) y = -1 - y := by
  have e1 : BitVec.ofInt 32 (-1) = BitVec.allOnes 32 := by decide
  have e2 : (BitVec.ofInt 32 y).toNat = (y % 4294967296).toNat := by rw [BitVec.toNat_ofInt]; rfl
  show IntKind.i32.wrap ((BitVec.ofInt 32 (-1) ^^^ BitVec.ofInt 32 y).toNat : Int) = _
  rw [e1, BitVec.allOnes_xor, BitVec.toNat_not, e2, IntKind.wrap_i32]
  omega
set_option maxRecDepth 100000 in
set_option maxHeartbeats 1000000 in
theorem bw_add (d r m c v o i : Value) (S : S8) (g lo hi : Nat) (w : World) (ht : 2 ≤ S.data.length) (h16 : S.data.length ≤ 16) (hhi : hi ≤ w.heap.size) (hlo : lo ≤ hi) (ho : OwnSt w lo hi d r m c v o i S) (hB : Blk w g 152 #[d, r, .int .i32 S.a, m, c, v, o, i, .int .i64 S.fault, .int .i64 S.fuel]) :
    Calls Tryz.prog 119 #[.pointer (some ⟨g, 0, none⟩)] w (BenchEnd w g lo hi d r m c v o i S (put8 S 2 [wrap32 (top8 S 1 + top8 S 0)])) := by
  obtain ⟨A, cap, rfl⟩ := own_form ho.d
  obtain ⟨n, hn⟩ : ∃ n, S.data.length = n + 2 := ⟨S.data.length - 2, by omega⟩
  have T0 : Hid (Taken w w g lo hi A (n + 1 + 1) cap (.slice A S.data.length cap) r m c v o i S) := Lib.hid (by have h := Taken.start hhi hlo ho hB; exact ⟨rfl, by omega, hhi, hlo, h.chg, h.own, by rw [← hn]; exact hB⟩)
  have H16 := Lib.hid h16
  have HN : Hid (S.data.length = n + 2) := Lib.hid hn
  have h18 : n + 2 ≤ 16 := by omega
  clear ho hB hhi hlo h16 ht hn
  obtain ⟨q0, hA0, hc0, hy0⟩ := T0.out.cell
  subst hA0
  obtain ⟨y, hy⟩ : ∃ y, S.data.getD (n + 1) 0 = y := ⟨_, rfl⟩
  rw [hy] at hy0
  have Hy : Hid (S.data.getD (n + 1) 0 = y) := Lib.hid hy
  have HK0 := Lib.hid (take_any g q0 (n + 1) cap y _ _ _ _ _ _ _ _ _ w (by omega) hc0 T0.out.box hy0)
  clear hy hy0 hc0
  go_enter Tryz.func119, Tryz.ntmps119
  go_wp2_with fail
  refine HK0.out.mono ?_
  rintro e w1 ⟨rfl, hw⟩
  have T1 : Hid (Taken w w1 g lo hi (some ⟨q0, 0, none⟩) (n + 1) cap (.slice (some ⟨q0, 0, none⟩) S.data.length cap) r m c v o i S) := Lib.hid (by rw [hw]; exact T0.out.step)
  clear hw HK0
  obtain ⟨q1, hA1, hc1, hy1⟩ := T1.out.cell
  injection hA1 with hA1
  injection hA1 with hA1
  subst hA1
  obtain ⟨x, hx⟩ : ∃ x, S.data.getD (n) 0 = x := ⟨_, rfl⟩
  rw [hx] at hy1
  have Hx : Hid (S.data.getD (n) 0 = x) := Lib.hid hx
  have HK1 := Lib.hid (take_any g q0 (n) cap x _ _ _ _ _ _ _ _ _ w1 (by omega) hc1 T1.out.box hy1)
  clear hx hy1 hc1
  go_wp2_with fail
  refine HK1.out.mono ?_
  rintro e w2 ⟨rfl, hw⟩
  have T2 : Hid (Taken w w2 g lo hi (some ⟨q0, 0, none⟩) (n) cap (.slice (some ⟨q0, 0, none⟩) S.data.length cap) r m c v o i S) := Lib.hid (by rw [hw]; exact T1.out.step)
  clear hw HK1
  have HL : Hid (put8 S 2 [wrap32 (y + x)] = put8 S 2 [wrap32 (top8 S 1 + top8 S 0)]) := Lib.hid (by rw [Int.add_comm y x]; unfold top8; rw [HN.out, ← Hy.out, ← Hx.out]; rfl)
  go_wp2_with fail
  refine (tell_end (t := 2) (l := [wrap32 (y + x)]) T2.out (by rw [HN.out]; rfl) H16.out (by simp) (fun h => absurd h (by have h1 := H16.out; have h2 := HN.out; simp; omega))).mono ?_
  intro e w9 hE
  rw [HL.out] at hE
  obtain ⟨z, rfl⟩ := hE.ret
  have HE := Lib.hid hE
  clear hE
  go_wp2_with fail
  go_ret
  exact HE.out
set_option maxRecDepth 100000 in
set_option maxHeartbeats 1000000 in
theorem bw_mul (d r m c v o i : Value) (S : S8) (g lo hi : Nat) (w : World) (ht : 2 ≤ S.data.length) (h16 : S.data.length ≤ 16) (hhi : hi ≤ w.heap.size) (hlo : lo ≤ hi) (ho : OwnSt w lo hi d r m c v o i S) (hB : Blk w g 152 #[d, r, .int .i32 S.a, m, c, v, o, i, .int .i64 S.fault, .int .i64 S.fuel]) :
    Calls Tryz.prog 121 #[.pointer (some ⟨g, 0, none⟩)] w (BenchEnd w g lo hi d r m c v o i S (put8 S 2 [wrap32 (top8 S 1 * top8 S 0)])) := by
  obtain ⟨A, cap, rfl⟩ := own_form ho.d
  obtain ⟨n, hn⟩ : ∃ n, S.data.length = n + 2 := ⟨S.data.length - 2, by omega⟩
  have T0 : Hid (Taken w w g lo hi A (n + 1 + 1) cap (.slice A S.data.length cap) r m c v o i S) := Lib.hid (by have h := Taken.start hhi hlo ho hB; exact ⟨rfl, by omega, hhi, hlo, h.chg, h.own, by rw [← hn]; exact hB⟩)
  have H16 := Lib.hid h16
  have HN : Hid (S.data.length = n + 2) := Lib.hid hn
  have h18 : n + 2 ≤ 16 := by omega
  clear ho hB hhi hlo h16 ht hn
  obtain ⟨q0, hA0, hc0, hy0⟩ := T0.out.cell
  subst hA0
  obtain ⟨y, hy⟩ : ∃ y, S.data.getD (n + 1) 0 = y := ⟨_, rfl⟩
  rw [hy] at hy0
  have Hy : Hid (S.data.getD (n + 1) 0 = y) := Lib.hid hy
  have HK0 := Lib.hid (take_any g q0 (n + 1) cap y _ _ _ _ _ _ _ _ _ w (by omega) hc0 T0.out.box hy0)
  clear hy hy0 hc0
  go_enter Tryz.func121, Tryz.ntmps121
  go_wp2_with fail
  refine HK0.out.mono ?_
  rintro e w1 ⟨rfl, hw⟩
  have T1 : Hid (Taken w w1 g lo hi (some ⟨q0, 0, none⟩) (n + 1) cap (.slice (some ⟨q0, 0, none⟩) S.data.length cap) r m c v o i S) := Lib.hid (by rw [hw]; exact T0.out.step)
  clear hw HK0
  obtain ⟨q1, hA1, hc1, hy1⟩ := T1.out.cell
  injection hA1 with hA1
  injection hA1 with hA1
  subst hA1
  obtain ⟨x, hx⟩ : ∃ x, S.data.getD (n) 0 = x := ⟨_, rfl⟩
  rw [hx] at hy1
  have Hx : Hid (S.data.getD (n) 0 = x) := Lib.hid hx
  have HK1 := Lib.hid (take_any g q0 (n) cap x _ _ _ _ _ _ _ _ _ w1 (by omega) hc1 T1.out.box hy1)
  clear hx hy1 hc1
  go_wp2_with fail
  refine HK1.out.mono ?_
  rintro e w2 ⟨rfl, hw⟩
  have T2 : Hid (Taken w w2 g lo hi (some ⟨q0, 0, none⟩) (n) cap (.slice (some ⟨q0, 0, none⟩) S.data.length cap) r m c v o i S) := Lib.hid (by rw [hw]; exact T1.out.step)
  clear hw HK1
  have HL : Hid (put8 S 2 [wrap32 (y * x)] = put8 S 2 [wrap32 (top8 S 1 * top8 S 0)]) := Lib.hid (by rw [Int.mul_comm y x]; unfold top8; rw [HN.out, ← Hy.out, ← Hx.out]; rfl)
  go_wp2_with fail
  refine (tell_end (t := 2) (l := [wrap32 (y * x)]) T2.out (by rw [HN.out]; rfl) H16.out (by simp) (fun h => absurd h (by have h1 := H16.out; have h2 := HN.out; simp; omega))).mono ?_
  intro e w9 hE
  rw [HL.out] at hE
  obtain ⟨z, rfl⟩ := hE.ret
  have HE := Lib.hid hE
  clear hE
  go_wp2_with fail
  go_ret
  exact HE.out
set_option maxRecDepth 100000 in
set_option maxHeartbeats 1000000 in
theorem bw_and (d r m c v o i : Value) (S : S8) (g lo hi : Nat) (w : World) (ht : 2 ≤ S.data.length) (h16 : S.data.length ≤ 16) (hhi : hi ≤ w.heap.size) (hlo : lo ≤ hi) (ho : OwnSt w lo hi d r m c v o i S) (hB : Blk w g 152 #[d, r, .int .i32 S.a, m, c, v, o, i, .int .i64 S.fault, .int .i64 S.fuel]) :
    Calls Tryz.prog 122 #[.pointer (some ⟨g, 0, none⟩)] w (BenchEnd w g lo hi d r m c v o i S (put8 S 2 [bits .and .i32 (top8 S 1) (top8 S 0)])) := by
  obtain ⟨A, cap, rfl⟩ := own_form ho.d
  obtain ⟨n, hn⟩ : ∃ n, S.data.length = n + 2 := ⟨S.data.length - 2, by omega⟩
  have T0 : Hid (Taken w w g lo hi A (n + 1 + 1) cap (.slice A S.data.length cap) r m c v o i S) := Lib.hid (by have h := Taken.start hhi hlo ho hB; exact ⟨rfl, by omega, hhi, hlo, h.chg, h.own, by rw [← hn]; exact hB⟩)
  have H16 := Lib.hid h16
  have HN : Hid (S.data.length = n + 2) := Lib.hid hn
  have h18 : n + 2 ≤ 16 := by omega
  clear ho hB hhi hlo h16 ht hn
  obtain ⟨q0, hA0, hc0, hy0⟩ := T0.out.cell
  subst hA0
  obtain ⟨y, hy⟩ : ∃ y, S.data.getD (n + 1) 0 = y := ⟨_, rfl⟩
  rw [hy] at hy0
  have Hy : Hid (S.data.getD (n + 1) 0 = y) := Lib.hid hy
  have HK0 := Lib.hid (take_any g q0 (n + 1) cap y _ _ _ _ _ _ _ _ _ w (by omega) hc0 T0.out.box hy0)
  clear hy hy0 hc0
  go_enter Tryz.func122, Tryz.ntmps122
  go_wp2_with fail
  refine HK0.out.mono ?_
  rintro e w1 ⟨rfl, hw⟩
  have T1 : Hid (Taken w w1 g lo hi (some ⟨q0, 0, none⟩) (n + 1) cap (.slice (some ⟨q0, 0, none⟩) S.data.length cap) r m c v o i S) := Lib.hid (by rw [hw]; exact T0.out.step)
  clear hw HK0
  obtain ⟨q1, hA1, hc1, hy1⟩ := T1.out.cell
  injection hA1 with hA1
  injection hA1 with hA1
  subst hA1
  obtain ⟨x, hx⟩ : ∃ x, S.data.getD (n) 0 = x := ⟨_, rfl⟩
  rw [hx] at hy1
  have Hx : Hid (S.data.getD (n) 0 = x) := Lib.hid hx
  have HK1 := Lib.hid (take_any g q0 (n) cap x _ _ _ _ _ _ _ _ _ w1 (by omega) hc1 T1.out.box hy1)
  clear hx hy1 hc1
  go_wp2_with fail
  refine HK1.out.mono ?_
  rintro e w2 ⟨rfl, hw⟩
  have T2 : Hid (Taken w w2 g lo hi (some ⟨q0, 0, none⟩) (n) cap (.slice (some ⟨q0, 0, none⟩) S.data.length cap) r m c v o i S) := Lib.hid (by rw [hw]; exact T1.out.step)
  clear hw HK1
  have HL : Hid (put8 S 2 [bits .and .i32 y x] = put8 S 2 [bits .and .i32 (top8 S 1) (top8 S 0)]) := Lib.hid (by rw [bits_and_comm y x]; unfold top8; rw [HN.out, ← Hy.out, ← Hx.out]; rfl)
  go_wp2_with fail
  refine (tell_end (t := 2) (l := [bits .and .i32 y x]) T2.out (by rw [HN.out]; rfl) H16.out (by simp) (fun h => absurd h (by have h1 := H16.out; have h2 := HN.out; simp; omega))).mono ?_
  intro e w9 hE
  rw [HL.out] at hE
  obtain ⟨z, rfl⟩ := hE.ret
  have HE := Lib.hid hE
  clear hE
  go_wp2_with fail
  go_ret
  exact HE.out
set_option maxRecDepth 100000 in
set_option maxHeartbeats 1000000 in
theorem bw_or (d r m c v o i : Value) (S : S8) (g lo hi : Nat) (w : World) (ht : 2 ≤ S.data.length) (h16 : S.data.length ≤ 16) (hhi : hi ≤ w.heap.size) (hlo : lo ≤ hi) (ho : OwnSt w lo hi d r m c v o i S) (hB : Blk w g 152 #[d, r, .int .i32 S.a, m, c, v, o, i, .int .i64 S.fault, .int .i64 S.fuel]) :
    Calls Tryz.prog 123 #[.pointer (some ⟨g, 0, none⟩)] w (BenchEnd w g lo hi d r m c v o i S (put8 S 2 [bits .xor .i32 (top8 S 1) (top8 S 0)])) := by
  obtain ⟨A, cap, rfl⟩ := own_form ho.d
  obtain ⟨n, hn⟩ : ∃ n, S.data.length = n + 2 := ⟨S.data.length - 2, by omega⟩
  have T0 : Hid (Taken w w g lo hi A (n + 1 + 1) cap (.slice A S.data.length cap) r m c v o i S) := Lib.hid (by have h := Taken.start hhi hlo ho hB; exact ⟨rfl, by omega, hhi, hlo, h.chg, h.own, by rw [← hn]; exact hB⟩)
  have H16 := Lib.hid h16
  have HN : Hid (S.data.length = n + 2) := Lib.hid hn
  have h18 : n + 2 ≤ 16 := by omega
  clear ho hB hhi hlo h16 ht hn
  obtain ⟨q0, hA0, hc0, hy0⟩ := T0.out.cell
  subst hA0
  obtain ⟨y, hy⟩ : ∃ y, S.data.getD (n + 1) 0 = y := ⟨_, rfl⟩
  rw [hy] at hy0
  have Hy : Hid (S.data.getD (n + 1) 0 = y) := Lib.hid hy
  have HK0 := Lib.hid (take_any g q0 (n + 1) cap y _ _ _ _ _ _ _ _ _ w (by omega) hc0 T0.out.box hy0)
  clear hy hy0 hc0
  go_enter Tryz.func123, Tryz.ntmps123
  go_wp2_with fail
  refine HK0.out.mono ?_
  rintro e w1 ⟨rfl, hw⟩
  have T1 : Hid (Taken w w1 g lo hi (some ⟨q0, 0, none⟩) (n + 1) cap (.slice (some ⟨q0, 0, none⟩) S.data.length cap) r m c v o i S) := Lib.hid (by rw [hw]; exact T0.out.step)
  clear hw HK0
  obtain ⟨q1, hA1, hc1, hy1⟩ := T1.out.cell
  injection hA1 with hA1
  injection hA1 with hA1
  subst hA1
  obtain ⟨x, hx⟩ : ∃ x, S.data.getD (n) 0 = x := ⟨_, rfl⟩
  rw [hx] at hy1
  have Hx : Hid (S.data.getD (n) 0 = x) := Lib.hid hx
  have HK1 := Lib.hid (take_any g q0 (n) cap x _ _ _ _ _ _ _ _ _ w1 (by omega) hc1 T1.out.box hy1)
  clear hx hy1 hc1
  go_wp2_with fail
  refine HK1.out.mono ?_
  rintro e w2 ⟨rfl, hw⟩
  have T2 : Hid (Taken w w2 g lo hi (some ⟨q0, 0, none⟩) (n) cap (.slice (some ⟨q0, 0, none⟩) S.data.length cap) r m c v o i S) := Lib.hid (by rw [hw]; exact T1.out.step)
  clear hw HK1
  have HL : Hid (put8 S 2 [bits .xor .i32 y x] = put8 S 2 [bits .xor .i32 (top8 S 1) (top8 S 0)]) := Lib.hid (by rw [bits_xor_comm y x]; unfold top8; rw [HN.out, ← Hy.out, ← Hx.out]; rfl)
  go_wp2_with fail
  refine (tell_end (t := 2) (l := [bits .xor .i32 y x]) T2.out (by rw [HN.out]; rfl) H16.out (by simp) (fun h => absurd h (by have h1 := H16.out; have h2 := HN.out; simp; omega))).mono ?_
  intro e w9 hE
  rw [HL.out] at hE
  obtain ⟨z, rfl⟩ := hE.ret
  have HE := Lib.hid hE
  clear hE
  go_wp2_with fail
  go_ret
  exact HE.out
set_option maxRecDepth 100000 in
set_option maxHeartbeats 1000000 in
theorem bw_double (d r m c v o i : Value) (S : S8) (g lo hi : Nat) (w : World) (ht : 1 ≤ S.data.length) (h16 : S.data.length ≤ 16) (hhi : hi ≤ w.heap.size) (hlo : lo ≤ hi) (ho : OwnSt w lo hi d r m c v o i S) (hB : Blk w g 152 #[d, r, .int .i32 S.a, m, c, v, o, i, .int .i64 S.fault, .int .i64 S.fuel]) :
    Calls Tryz.prog 124 #[.pointer (some ⟨g, 0, none⟩)] w (BenchEnd w g lo hi d r m c v o i S (put8 S 1 [wrap32 (top8 S 0 + top8 S 0)])) := by
  obtain ⟨A, cap, rfl⟩ := own_form ho.d
  obtain ⟨n, hn⟩ : ∃ n, S.data.length = n + 1 := ⟨S.data.length - 1, by omega⟩
  have T0 : Hid (Taken w w g lo hi A (n + 1) cap (.slice A S.data.length cap) r m c v o i S) := Lib.hid (by have h := Taken.start hhi hlo ho hB; exact ⟨rfl, by omega, hhi, hlo, h.chg, h.own, by rw [← hn]; exact hB⟩)
  have H16 := Lib.hid h16
  have HN : Hid (S.data.length = n + 1) := Lib.hid hn
  have h18 : n + 1 ≤ 16 := by omega
  clear ho hB hhi hlo h16 ht hn
  obtain ⟨q0, hA0, hc0, hy0⟩ := T0.out.cell
  subst hA0
  obtain ⟨y, hy⟩ : ∃ y, S.data.getD (n) 0 = y := ⟨_, rfl⟩
  rw [hy] at hy0
  have Hy : Hid (S.data.getD (n) 0 = y) := Lib.hid hy
  have HK0 := Lib.hid (take_any g q0 (n) cap y _ _ _ _ _ _ _ _ _ w (by omega) hc0 T0.out.box hy0)
  clear hy hy0 hc0
  go_enter Tryz.func124, Tryz.ntmps124
  go_wp2_with fail
  refine HK0.out.mono ?_
  rintro e w1 ⟨rfl, hw⟩
  have T1 : Hid (Taken w w1 g lo hi (some ⟨q0, 0, none⟩) (n) cap (.slice (some ⟨q0, 0, none⟩) S.data.length cap) r m c v o i S) := Lib.hid (by rw [hw]; exact T0.out.step)
  clear hw HK0
  have HL : Hid (put8 S 1 [wrap32 (y * 2)] = put8 S 1 [wrap32 (top8 S 0 + top8 S 0)]) := Lib.hid (by rw [show y * 2 = y + y by omega]; unfold top8; rw [HN.out, ← Hy.out]; rfl)
  go_wp2_with fail
  refine (tell_end (t := 1) (l := [wrap32 (y * 2)]) T1.out (by rw [HN.out]; rfl) H16.out (by simp) (fun h => absurd h (by have h1 := H16.out; have h2 := HN.out; simp; omega))).mono ?_
  intro e w9 hE
  rw [HL.out] at hE
  obtain ⟨z, rfl⟩ := hE.ret
  have HE := Lib.hid hE
  clear hE
  go_wp2_with fail
  go_ret
  exact HE.out
set_option maxRecDepth 100000 in
set_option maxHeartbeats 1000000 in
theorem bw_halve (d r m c v o i : Value) (S : S8) (g lo hi : Nat) (w : World) (ht : 1 ≤ S.data.length) (h16 : S.data.length ≤ 16) (hhi : hi ≤ w.heap.size) (hlo : lo ≤ hi) (ho : OwnSt w lo hi d r m c v o i S) (hB : Blk w g 152 #[d, r, .int .i32 S.a, m, c, v, o, i, .int .i64 S.fault, .int .i64 S.fuel]) :
    Calls Tryz.prog 125 #[.pointer (some ⟨g, 0, none⟩)] w (BenchEnd w g lo hi d r m c v o i S (put8 S 1 [top8 S 0 / 2])) := by
  obtain ⟨A, cap, rfl⟩ := own_form ho.d
  obtain ⟨n, hn⟩ : ∃ n, S.data.length = n + 1 := ⟨S.data.length - 1, by omega⟩
  have T0 : Hid (Taken w w g lo hi A (n + 1) cap (.slice A S.data.length cap) r m c v o i S) := Lib.hid (by have h := Taken.start hhi hlo ho hB; exact ⟨rfl, by omega, hhi, hlo, h.chg, h.own, by rw [← hn]; exact hB⟩)
  have H16 := Lib.hid h16
  have HN : Hid (S.data.length = n + 1) := Lib.hid hn
  have h18 : n + 1 ≤ 16 := by omega
  clear ho hB hhi hlo h16 ht hn
  obtain ⟨q0, hA0, hc0, hy0⟩ := T0.out.cell
  subst hA0
  obtain ⟨y, hy⟩ : ∃ y, S.data.getD (n) 0 = y := ⟨_, rfl⟩
  rw [hy] at hy0
  have Hy : Hid (S.data.getD (n) 0 = y) := Lib.hid hy
  have HK0 := Lib.hid (take_any g q0 (n) cap y _ _ _ _ _ _ _ _ _ w (by omega) hc0 T0.out.box hy0)
  clear hy hy0 hc0
  go_enter Tryz.func125, Tryz.ntmps125
  go_wp2_with fail
  refine HK0.out.mono ?_
  rintro e w1 ⟨rfl, hw⟩
  have T1 : Hid (Taken w w1 g lo hi (some ⟨q0, 0, none⟩) (n) cap (.slice (some ⟨q0, 0, none⟩) S.data.length cap) r m c v o i S) := Lib.hid (by rw [hw]; exact T0.out.step)
  clear hw HK0
  have HL : Hid (put8 S 1 [y / 2] = put8 S 1 [top8 S 0 / 2]) := Lib.hid (by unfold top8; rw [HN.out, ← Hy.out]; rfl)
  go_wp2_with fail
  refine (tell_end (t := 1) (l := [y / 2]) T1.out (by rw [HN.out]; rfl) H16.out (by simp) (fun h => absurd h (by have h1 := H16.out; have h2 := HN.out; simp; omega))).mono ?_
  intro e w9 hE
  rw [HL.out] at hE
  obtain ⟨z, rfl⟩ := hE.ret
  have HE := Lib.hid hE
  clear hE
  go_wp2_with fail
  go_ret
  exact HE.out
end Go.Proofs.YtdiaiflleiebfaaGreatDoor

namespace Go.Proofs.YtdiaiflleiebfaaGreatDoor
open Go.RowKit Go

set_option maxRecDepth 100000 in
set_option maxHeartbeats 1000000 in
theorem bw_turn (d r m c v o i : Value) (S : S8) (g lo hi : Nat) (w : World) (ht : 1 ≤ S.data.length) (h16 : S.data.length ≤ 16) (hin : -2147483648 ≤ top8 S 0 ∧ top8 S 0 ≤ 2147483647) (hhi : hi ≤ w.heap.size) (hlo : lo ≤ hi) (ho : OwnSt w lo hi d r m c v o i S) (hB : Blk w g 152 #[d, r, .int .i32 S.a, m, c, v, o, i, .int .i64 S.fault, .int .i64 S.fuel]) :
    Calls Tryz.prog 120 #[.pointer (some ⟨g, 0, none⟩)] w (BenchEnd w g lo hi d r m c v o i S (put8 S 1 [-1 - top8 S 0])) := by
  obtain ⟨A, cap, rfl⟩ := own_form ho.d
  obtain ⟨n, hn⟩ : ∃ n, S.data.length = n + 1 := ⟨S.data.length - 1, by omega⟩
  have T0 : Hid (Taken w w g lo hi A (n + 1) cap (.slice A S.data.length cap) r m c v o i S) := Lib.hid (by have h := Taken.start hhi hlo ho hB; exact ⟨rfl, by omega, hhi, hlo, h.chg, h.own, by rw [← hn]; exact hB⟩)
  have H16 := Lib.hid h16
  have HI0 := Lib.hid hin
  have HN : Hid (S.data.length = n + 1) := Lib.hid hn
  have h18 : n + 1 ≤ 16 := by omega
  clear hin ho hB hhi hlo h16 ht hn
  obtain ⟨q0, hA0, hc0, hy0⟩ := T0.out.cell
  subst hA0
  obtain ⟨y, hy⟩ : ∃ y, S.data.getD (n) 0 = y := ⟨_, rfl⟩
  rw [hy] at hy0
  have Hy : Hid (S.data.getD (n) 0 = y) := Lib.hid hy
  have HK0 := Lib.hid (take_any g q0 (n) cap y _ _ _ _ _ _ _ _ _ w (by omega) hc0 T0.out.box hy0)
  clear hy hy0 hc0
  go_enter Tryz.func120, Tryz.ntmps120
  go_wp2_with fail
  refine HK0.out.mono ?_
  rintro e w1 ⟨rfl, hw⟩
  have T1 : Hid (Taken w w1 g lo hi (some ⟨q0, 0, none⟩) (n) cap (.slice (some ⟨q0, 0, none⟩) S.data.length cap) r m c v o i S) := Lib.hid (by rw [hw]; exact T0.out.step)
  clear hw HK0
  have HIN : Hid (-2147483648 ≤ y ∧ y ≤ 2147483647) := Lib.hid (by have h := HI0.out; unfold top8 at h; rw [HN.out, show n + 1 - 1 - 0 = n by omega, Hy.out] at h; exact h)
  have HL : Hid (put8 S 1 [bits .xor .i32 (-1) y] = put8 S 1 [-1 - top8 S 0]) := Lib.hid (by rw [bits_not y (HIN.out.1) (HIN.out.2)]; unfold top8; rw [HN.out, ← Hy.out]; rfl)
  go_wp2_with fail
  refine (tell_end (t := 1) (l := [bits .xor .i32 (-1) y]) T1.out (by rw [HN.out]; rfl) H16.out (by simp) (fun h => absurd h (by have h1 := H16.out; have h2 := HN.out; simp; omega))).mono ?_
  intro e w9 hE
  rw [HL.out] at hE
  obtain ⟨z, rfl⟩ := hE.ret
  have HE := Lib.hid hE
  clear hE
  go_wp2_with fail
  go_ret
  exact HE.out
end Go.Proofs.YtdiaiflleiebfaaGreatDoor

namespace Go.Proofs.YtdiaiflleiebfaaGreatDoor
open Go.RowKit Go

set_option maxRecDepth 100000 in
set_option maxHeartbeats 1000000 in
theorem bw_divide_zero (d r m c v o i : Value) (S : S8) (g lo hi : Nat) (w : World) (ht : 2 ≤ S.data.length) (h16 : S.data.length ≤ 16)  (h0 : top8 S 0 = 0) (hhi : hi ≤ w.heap.size) (hlo : lo ≤ hi) (ho : OwnSt w lo hi d r m c v o i S) (hB : Blk w g 152 #[d, r, .int .i32 S.a, m, c, v, o, i, .int .i64 S.fault, .int .i64 S.fuel]) :
    Calls Tryz.prog 126 #[.pointer (some ⟨g, 0, none⟩)] w (BenchEnd w g lo hi d r m c v o i S (.inl 5)) := by
  obtain ⟨A, cap, rfl⟩ := own_form ho.d
  obtain ⟨n, hn⟩ : ∃ n, S.data.length = n + 2 := ⟨S.data.length - 2, by omega⟩
  have T0 : Hid (Taken w w g lo hi A (n + 1 + 1) cap (.slice A S.data.length cap) r m c v o i S) := Lib.hid (by have h := Taken.start hhi hlo ho hB; exact ⟨rfl, by omega, hhi, hlo, h.chg, h.own, by rw [← hn]; exact hB⟩)
  have HN : Hid (S.data.length = n + 2) := Lib.hid hn
  have h18 : n + 2 ≤ 16 := by omega
  clear ho hB hhi hlo h16 ht hn
  obtain ⟨q0, hA0, hc0, hy0⟩ := T0.out.cell
  subst hA0
  obtain ⟨y, hy⟩ : ∃ y, S.data.getD (n + 1) 0 = y := ⟨_, rfl⟩
  rw [hy] at hy0
  have Hy : Hid (S.data.getD (n + 1) 0 = y) := Lib.hid hy
  have HK0 := Lib.hid (take_any g q0 (n + 1) cap y _ _ _ _ _ _ _ _ _ w (by omega) hc0 T0.out.box hy0)
  clear hy hy0 hc0
  go_enter Tryz.func126, Tryz.ntmps126
  go_wp2_with fail
  refine HK0.out.mono ?_
  rintro e w1 ⟨rfl, hw⟩
  have T1 : Hid (Taken w w1 g lo hi (some ⟨q0, 0, none⟩) (n + 1) cap (.slice (some ⟨q0, 0, none⟩) S.data.length cap) r m c v o i S) := Lib.hid (by rw [hw]; exact T0.out.step)
  clear hw HK0
  obtain ⟨q1, hA1, hc1, hy1⟩ := T1.out.cell
  injection hA1 with hA1
  injection hA1 with hA1
  subst hA1
  obtain ⟨x, hx⟩ : ∃ x, S.data.getD (n) 0 = x := ⟨_, rfl⟩
  rw [hx] at hy1
  have Hx : Hid (S.data.getD (n) 0 = x) := Lib.hid hx
  have HK1 := Lib.hid (take_any g q0 (n) cap x _ _ _ _ _ _ _ _ _ w1 (by omega) hc1 T1.out.box hy1)
  clear hx hy1 hc1
  go_wp2_with fail
  refine HK1.out.mono ?_
  rintro e w2 ⟨rfl, hw⟩
  have T2 : Hid (Taken w w2 g lo hi (some ⟨q0, 0, none⟩) (n) cap (.slice (some ⟨q0, 0, none⟩) S.data.length cap) r m c v o i S) := Lib.hid (by rw [hw]; exact T1.out.step)
  clear hw HK1
  have ey : top8 S 0 = y := by unfold top8; rw [HN.out, ← Hy.out]; rfl
  have ex : top8 S 1 = x := by unfold top8; rw [HN.out, ← Hx.out]; rfl
  rw [ey] at h0
  subst h0
  clear ey ex
  have HE := Lib.hid (taken_fault T2.out (f := 5) (by decide))
  have hz : ((0 : Int) == 0) = true := by decide
  go_wp2_with fail
  go_ret
  exact HE.out
set_option maxRecDepth 100000 in
set_option maxHeartbeats 1000000 in
theorem bw_divide_num (d r m c v o i : Value) (S : S8) (g lo hi : Nat) (w : World) (ht : 2 ≤ S.data.length) (h16 : S.data.length ≤ 16)  (h0 : top8 S 0 ≠ 0) (hhi : hi ≤ w.heap.size) (hlo : lo ≤ hi) (ho : OwnSt w lo hi d r m c v o i S) (hB : Blk w g 152 #[d, r, .int .i32 S.a, m, c, v, o, i, .int .i64 S.fault, .int .i64 S.fuel]) :
    Calls Tryz.prog 126 #[.pointer (some ⟨g, 0, none⟩)] w (BenchEnd w g lo hi d r m c v o i S (put8 S 2 [(top8 S 1).tmod (top8 S 0), wrap32 ((top8 S 1).tdiv (top8 S 0))])) := by
  obtain ⟨A, cap, rfl⟩ := own_form ho.d
  obtain ⟨n, hn⟩ : ∃ n, S.data.length = n + 2 := ⟨S.data.length - 2, by omega⟩
  have T0 : Hid (Taken w w g lo hi A (n + 1 + 1) cap (.slice A S.data.length cap) r m c v o i S) := Lib.hid (by have h := Taken.start hhi hlo ho hB; exact ⟨rfl, by omega, hhi, hlo, h.chg, h.own, by rw [← hn]; exact hB⟩)
  have HN : Hid (S.data.length = n + 2) := Lib.hid hn
  have H16 := Lib.hid h16
  have h18 : n + 2 ≤ 16 := by omega
  clear ho hB hhi hlo h16 ht hn
  obtain ⟨q0, hA0, hc0, hy0⟩ := T0.out.cell
  subst hA0
  obtain ⟨y, hy⟩ : ∃ y, S.data.getD (n + 1) 0 = y := ⟨_, rfl⟩
  rw [hy] at hy0
  have Hy : Hid (S.data.getD (n + 1) 0 = y) := Lib.hid hy
  have HK0 := Lib.hid (take_any g q0 (n + 1) cap y _ _ _ _ _ _ _ _ _ w (by omega) hc0 T0.out.box hy0)
  clear hy hy0 hc0
  go_enter Tryz.func126, Tryz.ntmps126
  go_wp2_with fail
  refine HK0.out.mono ?_
  rintro e w1 ⟨rfl, hw⟩
  have T1 : Hid (Taken w w1 g lo hi (some ⟨q0, 0, none⟩) (n + 1) cap (.slice (some ⟨q0, 0, none⟩) S.data.length cap) r m c v o i S) := Lib.hid (by rw [hw]; exact T0.out.step)
  clear hw HK0
  obtain ⟨q1, hA1, hc1, hy1⟩ := T1.out.cell
  injection hA1 with hA1
  injection hA1 with hA1
  subst hA1
  obtain ⟨x, hx⟩ : ∃ x, S.data.getD (n) 0 = x := ⟨_, rfl⟩
  rw [hx] at hy1
  have Hx : Hid (S.data.getD (n) 0 = x) := Lib.hid hx
  have HK1 := Lib.hid (take_any g q0 (n) cap x _ _ _ _ _ _ _ _ _ w1 (by omega) hc1 T1.out.box hy1)
  clear hx hy1 hc1
  go_wp2_with fail
  refine HK1.out.mono ?_
  rintro e w2 ⟨rfl, hw⟩
  have T2 : Hid (Taken w w2 g lo hi (some ⟨q0, 0, none⟩) (n) cap (.slice (some ⟨q0, 0, none⟩) S.data.length cap) r m c v o i S) := Lib.hid (by rw [hw]; exact T1.out.step)
  clear hw HK1
  have ey : top8 S 0 = y := by unfold top8; rw [HN.out, ← Hy.out]; rfl
  have ex : top8 S 1 = x := by unfold top8; rw [HN.out, ← Hx.out]; rfl
  rw [ey] at h0
  have hz : (y == 0) = false := by simp [h0]
  have hz2 : y ≠ 0 := h0
  obtain ⟨z, hq⟩ : ∃ z, IntKind.i32.wrap (x.tdiv y) = z := ⟨_, rfl⟩
  have hq2 : wrap32 (x.tdiv y) = z := by rw [← hq]; exact (IntWalk.i32_left _).symm
  have HL : Hid (put8 S 2 [x.tmod y, z] = put8 S 2 [(top8 S 1).tmod (top8 S 0), wrap32 ((top8 S 1).tdiv (top8 S 0))]) := Lib.hid (by rw [ey, ex, hq2])
  clear ey ex h0 hq2
  have T3 := T2.out.far (Below.refl _ _).drew
  have H0 := tell_end (t := 2) (l := [x.tmod y, z]) T3 (by rw [HN.out]; rfl) H16.out (by simp) (fun h => absurd h (by have h1 := H16.out; have h2 := HN.out; simp; omega))
  have e1 : ∀ (W : World) (o : Obj), W.drew.alloc o = (W.alloc o).drew := fun _ _ => rfl
  have e2 : ∀ (W : World), W.drew.heap.size = W.heap.size := fun _ => rfl
  rw [e1, e2, HL.out] at H0
  have HH := Lib.hid H0
  clear H0 T3 e1 e2
  go_wp2_with fail
  go_region_with (go_at_call 113; go_loud (refine HH.out.mono ?_); intro e w9 hE; obtain ⟨u, rfl⟩ := hE.ret; have HE := Lib.hid hE; clear hE)
  all_goals go_wp2_with fail
  all_goals go_ret
  all_goals exact HE.out
end Go.Proofs.YtdiaiflleiebfaaGreatDoor
