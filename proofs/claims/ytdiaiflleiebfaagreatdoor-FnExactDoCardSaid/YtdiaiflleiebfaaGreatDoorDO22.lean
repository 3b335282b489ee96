/-
  The word ! on a bench.
-/
import Derived.Test.YtdiaiflleiebfaaGreatDoorDO21
import Derived.Test.YtdiaiflleiebfaaGreatDoorDO13
namespace Go.Proofs.YtdiaiflleiebfaaGreatDoor
open Go.RowKit Go

/-- The cells of a row may be stored to. -/
theorem own_frozen {w : World} {lo n : Nat} {e : TypeId} {v : Value} {xs : List Value} (h : w.ownsRow lo e 1 v n xs) {q n2 cq : Nat} (hv : v = .slice (some ⟨q, 0, none⟩) n2 cq) (j : Nat) : w.frozen? ⟨q, j, none⟩ = false := by
  obtain ⟨A, c, e⟩ := own_form h
  rw [hv] at e
  injection e with e1 e2 e3
  subst e2
  subst hv
  exact World.ownsRow.frozenAt h j
theorem store_mem {w w1 : World} {g lo hi n cap t q cq j : Nat} {A : Option Addr} {d r m c v o i : Value} {S : S8} (h : Taken w w1 g lo hi A n cap d r m c v o i S) (hn : S.data.length - t = n) (hq : m = .slice (some ⟨q, 0, none⟩) S.mem.length cq) (x : Int) :
    BenchEnd w g lo hi d r m c v o i S (.inr { drop8 S t with mem := S.mem.set j x }) (.returned (.int .i64 0)) (w1.setCell ⟨q, j, none⟩ (.int .i32 x)) := by
  have ho := h.own
  have hob : m.ownBlock = some q := by rw [hq]; rfl
  have hql : lo ≤ q ∧ q < hi := ⟨own_lt ho.m q hob, ho.top _ (by simp) q hob⟩
  have hrow := ho.m
  have hbo := box_neG h.box hrow (by decide)
  rw [hob] at hbo
  have hgq : g ≠ q := fun e => hbo (congrArg some e)
  have hG : w1.grownBy (w1.setCell ⟨q, j, none⟩ (.int .i32 x)) (some q) := only_setCell (World.grownBy.refl _ _) (.inl rfl) _
  have hst : World.ownsRow (w1.setCell ⟨q, j, none⟩ (.int .i32 x)) lo 21 1 m (S.mem.set j x).length ((S.mem.set j x).map iv) := by
    rw [List.length_set, List.map_set]
    have h2 := hrow
    rw [hq] at h2 ⊢
    exact (World.ownsRow.stored h2 j (.int .i32 x)).1
  have hd := ho.d
  rw [h.dform] at hd
  have hp := own_prefix hd h.le
  rw [← List.map_take] at hp
  have hl : (S.data.take n).length = n := by have := h.le; simp; omega
  have hdb : d.ownBlock = (Value.slice A n cap).ownBlock := by rw [h.dform]; exact own_block
  have ed : drop8 S t = { S with data := S.data.take n } := by unfold drop8; rw [hn]
  rw [ed]
  have hdm := ho.dm
  refine ⟨(h.chg.weaken fun k _ h2 => .inl h2).trans (.of_grown hG fun k hk => .inr (by injection hk with hk; subst hk; exact hql)), rfl, .slice A n cap, r, m, c, v, o, i, h.box.grown hG (fun e => hgq (Option.some.inj e)), ?_⟩
  exact OwnSt.of7T (S := { S with data := S.data.take n, mem := S.mem.set j x }) (by show World.ownsRow _ lo _ 1 _ (S.data.take n).length _; rw [hl]; exact hp.kept hG (by rw [← hdb, ← hob]; exact hdm)) (ho.r.kept hG (by rw [← hob]; exact rows_ne ho.r ho.m (by decide))) hst (ho.c.kept hG (by rw [← hob]; exact rows_ne ho.c ho.m (by decide))) (ho.v.kept hG (by rw [← hob]; exact rows_ne ho.v ho.m (by decide))) (ho.o.kept hG (by rw [← hob]; exact rows_ne ho.o ho.m (by decide))) (ho.i.kept hG (by rw [← hob]; exact tail_ne ho.i ho.m (by decide))) (by rw [← hdb]; exact hdm) ho.oi
theorem store_cells {w w1 : World} {g lo hi n cap t q cq j : Nat} {A : Option Addr} {d r m c v o i : Value} {S : S8} (h : Taken w w1 g lo hi A n cap d r m c v o i S) (hn : S.data.length - t = n) (hq : c = .slice (some ⟨q, 0, none⟩) S.cells.length cq) (x : Int) :
    BenchEnd w g lo hi d r m c v o i S (.inr { drop8 S t with cells := S.cells.set j (x % 4294967296).toNat }) (.returned (.int .i64 0)) (w1.setCell ⟨q, j, none⟩ (u32v (x % 4294967296).toNat)) := by
  have ho := h.own
  have hob : c.ownBlock = some q := by rw [hq]; rfl
  have hql : lo ≤ q ∧ q < hi := ⟨own_lt ho.c q hob, ho.top _ (by simp) q hob⟩
  have hrow := ho.c
  have hbo := box_neG h.box hrow (by decide)
  rw [hob] at hbo
  have hgq : g ≠ q := fun e => hbo (congrArg some e)
  have hG : w1.grownBy (w1.setCell ⟨q, j, none⟩ (u32v (x % 4294967296).toNat)) (some q) := only_setCell (World.grownBy.refl _ _) (.inl rfl) _
  have hst : World.ownsRow (w1.setCell ⟨q, j, none⟩ (u32v (x % 4294967296).toNat)) lo 36 1 c (S.cells.set j (x % 4294967296).toNat).length ((S.cells.set j (x % 4294967296).toNat).map u32v) := by
    rw [List.length_set, List.map_set]
    have h2 := hrow
    rw [hq] at h2 ⊢
    exact (World.ownsRow.stored h2 j (u32v (x % 4294967296).toNat)).1
  have hd := ho.d
  rw [h.dform] at hd
  have hp := own_prefix hd h.le
  rw [← List.map_take] at hp
  have hl : (S.data.take n).length = n := by have := h.le; simp; omega
  have hdb : d.ownBlock = (Value.slice A n cap).ownBlock := by rw [h.dform]; exact own_block
  have ed : drop8 S t = { S with data := S.data.take n } := by unfold drop8; rw [hn]
  rw [ed]
  have hdm := ho.dm
  refine ⟨(h.chg.weaken fun k _ h2 => .inl h2).trans (.of_grown hG fun k hk => .inr (by injection hk with hk; subst hk; exact hql)), rfl, .slice A n cap, r, m, c, v, o, i, h.box.grown hG (fun e => hgq (Option.some.inj e)), ?_⟩
  exact OwnSt.of7T (S := { S with data := S.data.take n, cells := S.cells.set j (x % 4294967296).toNat }) (by show World.ownsRow _ lo _ 1 _ (S.data.take n).length _; rw [hl]; exact hp.kept hG (by rw [← hdb, ← hob]; exact rows_ne ho.d ho.c (by decide))) (ho.r.kept hG (by rw [← hob]; exact rows_ne ho.r ho.c (by decide))) (ho.m.kept hG (by rw [← hob]; exact rows_ne ho.m ho.c (by decide))) hst (ho.v.kept hG (by rw [← hob]; exact rows_ne ho.v ho.c (by decide))) (ho.o.kept hG (by rw [← hob]; exact rows_ne ho.o ho.c (by decide))) (ho.i.kept hG (by rw [← hob]; exact tail_ne ho.i ho.c (by decide))) (by rw [← hdb]; exact hdm) ho.oi
set_option maxRecDepth 100000 in
set_option maxHeartbeats 1000000 in
theorem bw_store_mem (d r m c v o i : Value) (S : S8) (g lo hi : Nat) (w : World) (ht : 2 ≤ S.data.length) (h16 : S.data.length ≤ 16) (hm : S.mem.length = 32) (j : Nat) (hj : j ≤ 31) (htj : top8 S 0 = (j : Int)) (hhi : hi ≤ w.heap.size) (hlo : lo ≤ hi) (ho : OwnSt w lo hi d r m c v o i S) (hB : Blk w g 152 #[d, r, .int .i32 S.a, m, c, v, o, i, .int .i64 S.fault, .int .i64 S.fuel]) :
    Calls Tryz.prog 128 #[.pointer (some ⟨g, 0, none⟩)] w (BenchEnd w g lo hi d r m c v o i S (.inr { drop8 S 2 with mem := S.mem.set j (top8 S 1) })) := by
  obtain ⟨A, cap, rfl⟩ := own_form ho.d
  obtain ⟨n, hn⟩ : ∃ n, S.data.length = n + 2 := ⟨S.data.length - 2, by omega⟩
  have T0 : Hid (Taken w w g lo hi A (n + 1 + 1) cap (.slice A S.data.length cap) r m c v o i S) := Lib.hid (by have h := Taken.start hhi hlo ho hB; exact ⟨rfl, by omega, hhi, hlo, h.chg, h.own, by rw [← hn]; exact hB⟩)
  have HN : Hid (S.data.length = n + 2) := Lib.hid hn
  have H16 := Lib.hid h16
  have h18 : n + 2 ≤ 16 := by omega
  have HM := Lib.hid hm
  clear hm
  clear ho hB hhi hlo h16 ht hn
  obtain ⟨q0, hA0, hc0, hy0⟩ := T0.out.cell
  subst hA0
  obtain ⟨y, hy⟩ : ∃ y, S.data.getD (n + 1) 0 = y := ⟨_, rfl⟩
  rw [hy] at hy0
  have Hy : Hid (S.data.getD (n + 1) 0 = y) := Lib.hid hy
  have HK0 := Lib.hid (take_any g q0 (n + 1) cap y _ _ _ _ _ _ _ _ _ w (by omega) hc0 T0.out.box hy0)
  clear hy hy0 hc0
  have ey : top8 S 0 = y := by unfold top8; rw [HN.out, ← Hy.out]; rfl
  rw [htj] at ey
  subst ey
  clear htj
  have j1 : (0 : Int) ≤ (j : Int) := by omega
  have j2 : (j : Int) < 32 := by omega
  go_enter Tryz.func128, Tryz.ntmps128
  go_wp2_with fail
  refine HK0.out.mono ?_
  rintro e w1 ⟨rfl, hw⟩
  have T1 : Hid (Taken w w1 g lo hi (some ⟨q0, 0, none⟩) (n + 1) cap (.slice (some ⟨q0, 0, none⟩) S.data.length cap) r m c v o i S) := Lib.hid (by rw [hw]; exact T0.out.step)
  clear hw HK0
  obtain ⟨q1, hA1, hc1, hy1⟩ := T1.out.cell
  injection hA1 with hA1
  injection hA1 with hA1
  subst hA1
  obtain ⟨x, hx⟩ : ∃ x, S.data.getD (n) 0 = x := ⟨_, rfl⟩
  rw [hx] at hy1
  have Hx : Hid (S.data.getD (n) 0 = x) := Lib.hid hx
  have HK1 := Lib.hid (take_any g q0 (n) cap x _ _ _ _ _ _ _ _ _ w1 (by omega) hc1 T1.out.box hy1)
  clear hx hy1 hc1
  go_wp2_with fail
  refine HK1.out.mono ?_
  rintro e w2 ⟨rfl, hw⟩
  have T2 : Hid (Taken w w2 g lo hi (some ⟨q0, 0, none⟩) (n) cap (.slice (some ⟨q0, 0, none⟩) S.data.length cap) r m c v o i S) := Lib.hid (by rw [hw]; exact T1.out.step)
  clear hw HK1
  have ex : top8 S 1 = x := by unfold top8; rw [HN.out, ← Hx.out]; rfl
  obtain ⟨qm, cm, hM, hcm, hqm, hmc⟩ := own_cell T2.out.own.m (i := j) (by have := HM.out; omega)
  have HE := Lib.hid (store_mem (t := 2) (j := j) T2.out (by rw [HN.out]; rfl) hM x)
  rw [ex]
  rw [HM.out] at hM hcm
  have hfm := own_frozen T2.out.own.m hM j
  subst hM
  have hmc2 : ∃ u, w2.cell? ⟨qm, j, none⟩ = some u := ⟨_, hmc.trans (List.getElem?_eq_getElem (by rw [List.length_map, HM.out]; omega))⟩
  obtain ⟨u, hmc3⟩ := hmc2
  obtain ⟨p0, p1, p2, p3, p4, p5, p6, p7, p8, p9⟩ := st_cells T2.out.box
  have HEX := Lib.hid ex
  clear hmc ex
  have HI := Lib.hid (isMem_yes (j : Int) w2 j1 j2)
  go_wp2_with fail
  refine HI.out.mono ?_
  rintro e w3 ⟨rfl, rfl⟩
  clear HI
  go_wp2_with fail
  go_ret
  rw [HEX.out]
  exact HE.out
set_option maxRecDepth 100000 in
set_option maxHeartbeats 1000000 in
theorem bw_store_var (d r m c v o i : Value) (S : S8) (g lo hi : Nat) (w : World) (ht : 2 ≤ S.data.length) (h16 : S.data.length ≤ 16) (hc : S.cells.length ≤ 2000) (hvl : S.vars.length ≤ 20) (j : Nat) (hj : j < S.cells.length) (htj : top8 S 0 = 1024 + (j : Int)) (hin : (j : Int) ∈ S.vars) (hhi : hi ≤ w.heap.size) (hlo : lo ≤ hi) (ho : OwnSt w lo hi d r m c v o i S) (hB : Blk w g 152 #[d, r, .int .i32 S.a, m, c, v, o, i, .int .i64 S.fault, .int .i64 S.fuel]) :
    Calls Tryz.prog 128 #[.pointer (some ⟨g, 0, none⟩)] w (BenchEnd w g lo hi d r m c v o i S (.inr { drop8 S 2 with cells := S.cells.set j (top8 S 1 % 4294967296).toNat })) := by
  obtain ⟨A, cap, rfl⟩ := own_form ho.d
  obtain ⟨n, hn⟩ : ∃ n, S.data.length = n + 2 := ⟨S.data.length - 2, by omega⟩
  have T0 : Hid (Taken w w g lo hi A (n + 1 + 1) cap (.slice A S.data.length cap) r m c v o i S) := Lib.hid (by have h := Taken.start hhi hlo ho hB; exact ⟨rfl, by omega, hhi, hlo, h.chg, h.own, by rw [← hn]; exact hB⟩)
  have HN : Hid (S.data.length = n + 2) := Lib.hid hn
  have H16 := Lib.hid h16
  have h18 : n + 2 ≤ 16 := by omega
  have HC := Lib.hid hc
  have HJ := Lib.hid hj
  have HIN := Lib.hid hin
  have HVL := Lib.hid hvl
  clear hc hj hin hvl
  clear ho hB hhi hlo h16 ht hn
  obtain ⟨q0, hA0, hc0, hy0⟩ := T0.out.cell
  subst hA0
  obtain ⟨y, hy⟩ : ∃ y, S.data.getD (n + 1) 0 = y := ⟨_, rfl⟩
  rw [hy] at hy0
  have Hy : Hid (S.data.getD (n + 1) 0 = y) := Lib.hid hy
  have HK0 := Lib.hid (take_any g q0 (n + 1) cap y _ _ _ _ _ _ _ _ _ w (by omega) hc0 T0.out.box hy0)
  clear hy hy0 hc0
  have ey : top8 S 0 = y := by unfold top8; rw [HN.out, ← Hy.out]; rfl
  rw [htj] at ey
  subst ey
  clear htj
  have j1 : ¬ ((0 : Int) ≤ 1024 + (j : Int) ∧ 1024 + (j : Int) < 32) := by omega
  have j2 : (0 : Int) ≤ (j : Int) := by omega
  have j3 : 1024 + (j : Int) - 1024 = (j : Int) := by omega
  have j5 : j ≤ 2000 := by have := HJ.out; have := HC.out; omega
  obtain ⟨N, hN⟩ : ∃ N, S.cells.length = N := ⟨_, rfl⟩
  have HNN := Lib.hid hN
  have j4 : (j : Int) < (N : Int) := by have := HJ.out; omega
  have j6 : N ≤ 2000 := by have := HC.out; omega
  clear hN
  go_enter Tryz.func128, Tryz.ntmps128
  go_wp2_with fail
  refine HK0.out.mono ?_
  rintro e w1 ⟨rfl, hw⟩
  have T1 : Hid (Taken w w1 g lo hi (some ⟨q0, 0, none⟩) (n + 1) cap (.slice (some ⟨q0, 0, none⟩) S.data.length cap) r m c v o i S) := Lib.hid (by rw [hw]; exact T0.out.step)
  clear hw HK0
  obtain ⟨q1, hA1, hc1, hy1⟩ := T1.out.cell
  injection hA1 with hA1
  injection hA1 with hA1
  subst hA1
  obtain ⟨x, hx⟩ : ∃ x, S.data.getD (n) 0 = x := ⟨_, rfl⟩
  rw [hx] at hy1
  have Hx : Hid (S.data.getD (n) 0 = x) := Lib.hid hx
  have HK1 := Lib.hid (take_any g q0 (n) cap x _ _ _ _ _ _ _ _ _ w1 (by omega) hc1 T1.out.box hy1)
  clear hx hy1 hc1
  go_wp2_with fail
  refine HK1.out.mono ?_
  rintro e w2 ⟨rfl, hw⟩
  have T2 : Hid (Taken w w2 g lo hi (some ⟨q0, 0, none⟩) (n) cap (.slice (some ⟨q0, 0, none⟩) S.data.length cap) r m c v o i S) := Lib.hid (by rw [hw]; exact T1.out.step)
  clear hw HK1
  have ex : top8 S 1 = x := by unfold top8; rw [HN.out, ← Hx.out]; rfl
  obtain ⟨qm, cm, hM, hcm, hqm, hmc⟩ := own_cell T2.out.own.c (i := j) HJ.out
  have HE := Lib.hid (store_cells (t := 2) (j := j) T2.out (by rw [HN.out]; rfl) hM x)
  rw [ex]
  rw [HNN.out] at hM hcm
  have hfm := own_frozen T2.out.own.c hM j
  have hRL := RdL.of_own T2.out.own.v (by have := HVL.out; omega)
  obtain ⟨V, vc, hV⟩ := own_form T2.out.own.v
  subst hM hV
  have HCC := Lib.hid (contains_any _ _ (j : Int) w2 hRL)
  rw [decide_eq_true HIN.out] at HCC
  have hmc2 : ∃ u, w2.cell? ⟨qm, j, none⟩ = some u := ⟨_, hmc.trans (List.getElem?_eq_getElem (by rw [List.length_map]; exact HJ.out))⟩
  obtain ⟨u, hmc3⟩ := hmc2
  obtain ⟨p0, p1, p2, p3, p4, p5, p6, p7, p8, p9⟩ := st_cells T2.out.box
  have hxv : u32v (x % 4294967296).toNat = .int .u32 (x % 4294967296) := by
    unfold u32v
    rw [Int.toNat_of_nonneg (by omega)]
  have HXV := Lib.hid hxv
  have HEX := Lib.hid ex
  clear hmc ex hRL hxv HIN HVL
  have HI := Lib.hid (isMem_no (1024 + (j : Int)) w2 j1)
  go_wp2_with fail
  refine HI.out.mono ?_
  rintro e w3 ⟨rfl, rfl⟩
  clear HI
  go_wp2_with fail
  refine HCC.out.mono ?_
  rintro e w4 ⟨rfl, rfl⟩
  clear HCC
  go_wp2_with fail
  go_ret
  rw [HEX.out]
  have hE := HE.out
  rw [HXV.out] at hE
  exact hE
set_option maxRecDepth 100000 in
set_option maxHeartbeats 1000000 in
theorem bw_store_none (d r m c v o i : Value) (S : S8) (g lo hi : Nat) (w : World) (ht : 2 ≤ S.data.length) (h16 : S.data.length ≤ 16) (hvl : S.vars.length ≤ 20) (hr0 : -2147483648 ≤ top8 S 0) (hr1 : top8 S 0 ≤ 2147483647) (h0 : ¬ ((0 : Int) ≤ top8 S 0 ∧ top8 S 0 < 32)) (hni : top8 S 0 - 1024 ∉ S.vars) (hhi : hi ≤ w.heap.size) (hlo : lo ≤ hi) (ho : OwnSt w lo hi d r m c v o i S) (hB : Blk w g 152 #[d, r, .int .i32 S.a, m, c, v, o, i, .int .i64 S.fault, .int .i64 S.fuel]) :
    Calls Tryz.prog 128 #[.pointer (some ⟨g, 0, none⟩)] w (BenchEnd w g lo hi d r m c v o i S (.inl 4)) := by
  obtain ⟨A, cap, rfl⟩ := own_form ho.d
  obtain ⟨n, hn⟩ : ∃ n, S.data.length = n + 2 := ⟨S.data.length - 2, by omega⟩
  have T0 : Hid (Taken w w g lo hi A (n + 1 + 1) cap (.slice A S.data.length cap) r m c v o i S) := Lib.hid (by have h := Taken.start hhi hlo ho hB; exact ⟨rfl, by omega, hhi, hlo, h.chg, h.own, by rw [← hn]; exact hB⟩)
  have HN : Hid (S.data.length = n + 2) := Lib.hid hn
  have H16 := Lib.hid h16
  have h18 : n + 2 ≤ 16 := by omega
  have HVL := Lib.hid hvl
  clear hvl
  clear ho hB hhi hlo h16 ht hn
  obtain ⟨q0, hA0, hc0, hy0⟩ := T0.out.cell
  subst hA0
  obtain ⟨y, hy⟩ : ∃ y, S.data.getD (n + 1) 0 = y := ⟨_, rfl⟩
  rw [hy] at hy0
  have Hy : Hid (S.data.getD (n + 1) 0 = y) := Lib.hid hy
  have HK0 := Lib.hid (take_any g q0 (n + 1) cap y _ _ _ _ _ _ _ _ _ w (by omega) hc0 T0.out.box hy0)
  clear hy hy0 hc0
  have ey : top8 S 0 = y := by unfold top8; rw [HN.out, ← Hy.out]; rfl
  rw [ey] at hr0 hr1 h0 hni
  clear ey
  have HNI := Lib.hid hni
  have H0 := Lib.hid h0
  clear hni h0
  go_enter Tryz.func128, Tryz.ntmps128
  go_wp2_with fail
  refine HK0.out.mono ?_
  rintro e w1 ⟨rfl, hw⟩
  have T1 : Hid (Taken w w1 g lo hi (some ⟨q0, 0, none⟩) (n + 1) cap (.slice (some ⟨q0, 0, none⟩) S.data.length cap) r m c v o i S) := Lib.hid (by rw [hw]; exact T0.out.step)
  clear hw HK0
  obtain ⟨q1, hA1, hc1, hy1⟩ := T1.out.cell
  injection hA1 with hA1
  injection hA1 with hA1
  subst hA1
  obtain ⟨x, hx⟩ : ∃ x, S.data.getD (n) 0 = x := ⟨_, rfl⟩
  rw [hx] at hy1
  have Hx : Hid (S.data.getD (n) 0 = x) := Lib.hid hx
  have HK1 := Lib.hid (take_any g q0 (n) cap x _ _ _ _ _ _ _ _ _ w1 (by omega) hc1 T1.out.box hy1)
  clear hx hy1 hc1
  go_wp2_with fail
  refine HK1.out.mono ?_
  rintro e w2 ⟨rfl, hw⟩
  have T2 : Hid (Taken w w2 g lo hi (some ⟨q0, 0, none⟩) (n) cap (.slice (some ⟨q0, 0, none⟩) S.data.length cap) r m c v o i S) := Lib.hid (by rw [hw]; exact T1.out.step)
  clear hw HK1
  have hRL := RdL.of_own T2.out.own.v (by have := HVL.out; omega)
  obtain ⟨V, vc, hV⟩ := own_form T2.out.own.v
  subst hV
  have HCC := Lib.hid (contains_any _ _ (y - 1024) w2 hRL)
  rw [decide_eq_false HNI.out] at HCC
  obtain ⟨p0, p1, p2, p3, p4, p5, p6, p7, p8, p9⟩ := st_cells T2.out.box
  have HE := Lib.hid (taken_fault T2.out (f := 4) (by decide))
  have HI := Lib.hid (isMem_no y w2 H0.out)
  clear hRL
  go_wp2_with fail
  refine HI.out.mono ?_
  rintro e w3 ⟨rfl, rfl⟩
  clear HI
  go_wp2_with fail
  refine HCC.out.mono ?_
  rintro e w4 ⟨rfl, rfl⟩
  clear HCC
  go_wp2_with fail
  go_ret
  exact HE.out
end Go.Proofs.YtdiaiflleiebfaaGreatDoor
