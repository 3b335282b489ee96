/-
  A block is put into a store: the model's way, cell by cell.
-/
import Derived.Test.YtcddkcejjajlhaaPutBlk
namespace Go.Proofs.Ytcddkcejjajlhaa
open Go.RowKit Go

set_option maxHeartbeats 1000000 in
theorem spec_putblock_no1 (v u : Value) (xs ys : List Nat) (b : Int) (w : World) (hr : RdN w v xs) (hy : RdN w u ys) (hb : hasB xs.length b = false) : Calls Try.prog 24 #[stA v, .int .i64 b, u] w (NewR (pairSV (putOk xs.length b ys.length)) w (putC xs b ys)) := by
  have e : putOk xs.length b ys.length = false := by unfold putOk; rw [hb, Bool.false_and]
  have e2 : putC xs b ys = [] := if_neg (by rw [e]; decide)
  rw [e, e2]
  obtain ⟨A, c, rfl⟩ := hr.form
  obtain ⟨B, d, rfl⟩ := hy.form
  have HH := Lib.hid (fun W => spec_has A xs.length c hr.small b W)
  rw [hb] at HH
  clear hr hy hb e e2
  go_enter Try.func24, Try.ntmps24
  go_wp2_with fail
  refine (HH.out _).mono ?_
  rintro e w1 ⟨rfl, hb1⟩
  obtain ⟨k1, k2, hB, hz⟩ := boxes2 hb1
  have c2 : _ = some _ := k2.cell 0
  have f2 := k2.frozen 0
  have HB := Lib.hid hB
  have K2 := Lib.hid k2
  clear hb1 HH k1 k2 hB
  go_wp2_with fail
  have e0 : _ = some _ := (st_blk K2.out (.slice none 0 0)).cell 0
  exact bodyPost_ret (v := pairSV false (.slice none 0 0)) (by simp [results, Try.results24, e0, go_sem]) rfl (newr_none (HB.out.setCell (by simp) _))
set_option maxHeartbeats 1000000 in
theorem spec_putblock_no2 (v u : Value) (xs ys : List Nat) (b : Int) (w : World) (hr : RdN w v xs) (hy : RdN w u ys) (hb : hasB xs.length b = true) (hm : 64 < ys.length) : Calls Try.prog 24 #[stA v, .int .i64 b, u] w (NewR (pairSV (putOk xs.length b ys.length)) w (putC xs b ys)) := by
  have e : putOk xs.length b ys.length = false := by unfold putOk; rw [decide_eq_false (by omega), Bool.and_false]
  have e2 : putC xs b ys = [] := if_neg (by rw [e]; decide)
  rw [e, e2]
  obtain ⟨A, c, rfl⟩ := hr.form
  obtain ⟨B, d, rfl⟩ := hy.form
  have HH := Lib.hid (fun W => spec_has A xs.length c hr.small b W)
  rw [hb] at HH
  have hm2 : (64 : Int) < (ys.length : Int) := by omega
  clear hr hy hb e e2 hm
  go_enter Try.func24, Try.ntmps24
  go_wp2_with fail
  refine (HH.out _).mono ?_
  rintro e w1 ⟨rfl, hb1⟩
  obtain ⟨k1, k2, hB, hz⟩ := boxes2 hb1
  have c2 : _ = some _ := k2.cell 0
  have f2 := k2.frozen 0
  have HB := Lib.hid hB
  have K2 := Lib.hid k2
  clear hb1 HH k1 k2 hB
  go_wp2_with fail
  have e0 : _ = some _ := (st_blk K2.out (.slice none 0 0)).cell 0
  exact bodyPost_ret (v := pairSV false (.slice none 0 0)) (by simp [results, Try.results24, e0, go_sem]) rfl (newr_none (HB.out.setCell (by simp) _))

theorem putI_map {xs ys : List Nat} {k i : Nat} (h3 : 64 * k + 64 ≤ xs.length) (hm : ys.length ≤ 64) (hi : i < 64) (u : Nat) (hu : (padL ys)[i]'(by rw [padL_len hm]; exact hi) = u) :
    ((putI xs k ys i).map u32v).set (k * 64 + i) (.int .u32 (u : Int)) = (putI xs k ys (i + 1)).map u32v := by
  have e : Value.int .u32 (u : Int) = u32v u := rfl
  rw [e, ← List.map_set, ← putI_set h3 hm hi, hu, Nat.mul_comm k 64]
set_option maxRecDepth 100000 in
set_option maxHeartbeats 2000000 in
theorem spec_putblock_yes (v u : Value) (xs ys : List Nat) (k : Nat) (w : World) (hr : RdN w v xs) (hy : RdN w u ys) (hb : hasB xs.length (k : Int) = true) (h3 : 64 * k + 64 ≤ xs.length) (hx : xs.length ≤ 768) (hm : ys.length ≤ 64) : Calls Try.prog 24 #[stA v, .int .i64 (k : Int), u] w (NewR (pairSV true) w (putL xs k ys)) := by
  obtain ⟨i0, hi, hz0, hz1, hz2⟩ := info_parts infoU32
  obtain ⟨A, c, rfl⟩ := rd_some hr (by omega)
  obtain ⟨B, d, rfl⟩ := hy.form
  have HH := Lib.hid (fun W => spec_has (some A) xs.length c hr.small (k : Int) W)
  rw [hb] at HH
  have hm2 : (ys.length : Int) ≤ 64 := by omega
  have hk : k ≤ 11 := by omega
  have HX := Lib.hid (fun W (hbl : Below w.heap.size w W) => cells_of_rd ((hr.below hbl).below (below_alloc W (.cells #[] 43))))
  have HY := Lib.hid (fun W (hbl : Below w.heap.size w W) => hy.below hbl)
  clear hr hy hb
  go_enter Try.func24, Try.ntmps24
  go_wp2_with fail
  refine (HH.out _).mono ?_
  rintro e w1 ⟨rfl, hb1⟩
  obtain ⟨k1, k2, hB, hz⟩ := boxes2 hb1
  have c1 : w1.cell? ⟨w.heap.size, 0, none⟩ = some (.slice (some A) xs.length c) := k1.cell 0
  have hlt1 : w.heap.size < w1.heap.size := by omega
  have HB := Lib.hid hB
  have K2 := Lib.hid k2
  have HX1 := Lib.hid (HX.out w1 hB)
  clear hb1 HH k1 k2 hB HX
  go_wp2_with (at_builtin; go_loud (refine wpList_append_own _ rfl _ _ 24 rfl w1.heap.size 43 i0 (.int .u32 0) 1 4 Try.underlying24 hi hz0 hz1 hz2 rfl (by decide) _ 0 [] rfl (own_empty w1 43) A xs.length c (xs.map u32v) rfl (by simp) HX1.out (one_u32 _) (by unfold maxLen; omega) (by omega) (by simp) ?_; intro v' w2 hown hgr hif; clear hif))
  rw [Nat.zero_add, List.nil_append] at hown
  obtain ⟨g, cap, cur, rfl, hrow⟩ := own_row hown (by omega)
  have hB2 : Below w.heap.size w w2 := HB.out.trans (((below_alloc w1 _).grown hgr (by simp) (fun k hk => own_lt (own_empty w1 43) k hk)).mono HB.out.size)
  have hK2 := (K2.out.alloc (.cells #[] 43)).grown hgr (fun e => by have := own_lt (own_empty w1 43) _ e.symm; omega)
  have hstart : w2.ownsRow w1.heap.size 43 1 (.slice (some ⟨g, 0, none⟩) xs.length cap) xs.length ((putI xs k ys 0).map u32v) := by rw [putI_zero]; exact hown
  have hgb : w1.heap.size ≤ g := hrow.base
  have hcp := hrow.le
  have K2b := Lib.hid hK2
  clear hown hgr hrow K2 HX1 c1 HB hK2
  go_loopw [9] (fun vi wr => ∃ i : Nat, vi = .int .i64 i ∧ i ≤ 64 ∧ wr.ownsRow w1.heap.size 43 1 (.slice (some ⟨g, 0, none⟩) xs.length cap) xs.length ((putI xs k ys i).map u32v) ∧ Below w.heap.size w wr ∧ w2.grownBy wr (some g)) (fun vi _ => 64 - (intOf vi).toNat)
  case atStart => exact ⟨0, rfl, by omega, hstart, hB2, World.grownBy.refl _ _⟩
  case round =>
    clear hstart hB2
    obtain ⟨i, rfl, hi64, hO, hB, hG⟩ := hrel
    by_cases hp : i < 64
    · have i2 : (i : Int) < 64 := by omega
      have hlenI := putI_len (i := i) h3 hm (by omega)
      have hd : wr.cell? ⟨g, k * 64 + i, none⟩ = some (u32v ((putI xs k ys i)[k * 64 + i]'(by omega))) := by
        rw [hO.cellAt _ (by omega)]
        simp [hlenI, show k * 64 + i < xs.length by omega]
      have hf := hO.frozenAt (k * 64 + i)
      by_cases hq : i < ys.length
      · have i3 : (i : Int) < (ys.length : Int) := by omega
        have hB' : Below w.heap.size w (wr.setCell ⟨g, k * 64 + i, none⟩ (.int .u32 0)) := hB.setCell (by show w.heap.size ≤ g; omega) _
        obtain ⟨ad, hB0, hcy⟩ := rd_src (HY.out _ hB') (by omega)
        subst hB0
        have hci : (wr.setCell ⟨g, k * 64 + i, none⟩ (.int .u32 0)).cell? (ad.add i) = some (.int .u32 (ys[i] : Int)) := hcy i _ (by simp [hq, u32v])
        have hs1 := hO.stored (k * 64 + i) (.int .u32 0)
        have hs2 := hs1.1.stored (k * 64 + i) (.int .u32 (ys[i] : Int))
        rw [List.set_set, putI_map h3 hm hp ys[i] (by rw [padL_at hm i hp, dif_pos hq])] at hs2
        have HS := Lib.hid (And.intro hs2.1 (only_trans hs1.2 hs2.2))
        have HB := Lib.hid hB
        have HG := Lib.hid hG
        clear hcy hB' hs1 hs2 hO hB hG
        go_wp2
        go_roundw
        case rel => exact ⟨i + 1, by go_num, by omega, HS.out.1, HB.out.grown HS.out.2 HB.out.size (fun k hk => by injection hk with hk; omega), only_trans HG.out HS.out.2⟩
        case measure => simp [intOf]; omega
      · have i3 : ¬ (i : Int) < (ys.length : Int) := by omega
        have hs1 := hO.stored (k * 64 + i) (.int .u32 0)
        rw [show Value.int .u32 0 = .int .u32 ((0 : Nat) : Int) from rfl, putI_map h3 hm hp 0 (by rw [padL_at hm i hp, dif_neg hq])] at hs1
        have HS : Hid (World.ownsRow (wr.setCell ⟨g, k * 64 + i, none⟩ (.int .u32 0)) _ _ _ _ _ _ ∧ World.grownBy wr (wr.setCell ⟨g, k * 64 + i, none⟩ (.int .u32 0)) (some g)) := Lib.hid hs1
        have HB := Lib.hid hB
        have HG := Lib.hid hG
        clear hs1 hO hB hG
        go_wp2
        go_roundw
        case rel => exact ⟨i + 1, by go_num, by omega, HS.out.1, HB.out.grown HS.out.2 HB.out.size (fun k hk => by injection hk with hk; omega), only_trans HG.out HS.out.2⟩
        case measure => simp [intOf]; omega
    · obtain rfl : i = 64 := by omega
      have k3 := K2b.out.grown hG (fun e => by injection e with e; omega)
      have c3 : wr.cell? ⟨w.heap.size + 1, 0, none⟩ = some (.slice none 0 0) := k3.cell 0
      have f3 := k3.frozen 0
      have K3 := Lib.hid k3
      have HO := Lib.hid hO
      have HB := Lib.hid hB
      clear k3 hO hB hG K2b
      go_wp2
      have e0 : _ = some _ := (st_blk K3.out (.slice (some ⟨g, 0, none⟩) xs.length cap)).cell 0
      have hl2 := putL_len (cells := ys) h3 hm
      exact bodyPost_ret (v := pairSV true (.slice (some ⟨g, 0, none⟩) xs.length cap)) (by simp [results, Try.results24, e0, go_sem]) rfl
        ⟨_, rfl, by rw [hl2]; exact (own_put HO.out (by show w.heap.size + 1 < w1.heap.size; omega) _).mono (by omega), HB.out.setCell (by simp) _⟩
theorem spec_putblock (v u : Value) (xs ys : List Nat) (b : Int) (w : World) (hr : RdN w v xs) (hy : RdN w u ys) : Calls Try.prog 24 #[stA v, .int .i64 b, u] w (NewR (pairSV (putOk xs.length b ys.length)) w (putC xs b ys)) := by
  by_cases hb : hasB xs.length b = true
  · by_cases hm : ys.length ≤ 64
    · obtain ⟨k, rfl, h1, h2, h3⟩ := hasB_some hb
      rw [putC_yes (put_yes hb hm), put_yes hb hm]
      exact spec_putblock_yes v u xs ys k w hr hy hb h3 h2 hm
    · exact spec_putblock_no2 v u xs ys b w hr hy hb (by omega)
  · exact spec_putblock_no1 v u xs ys b w hr hy (by simpa using hb)
end Go.Proofs.Ytcddkcejjajlhaa
