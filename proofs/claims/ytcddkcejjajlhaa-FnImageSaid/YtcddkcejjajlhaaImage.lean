/-
  The bytes of a store: the program's way.
-/
import Derived.Test.YtcddkcejjajlhaaPutCell
import Derived.Test.YtcddkcejjajlhaaSum
import Derived.Test.YtcddkcejjajlhaaHasBlk
import Derived.Deep.RegionHeld3
namespace Go.Proofs.Ytcddkcejjajlhaa
open Go.RowKit Go

attribute [local go_sem ↓] Go.wp_at_zero Go.wp_at_succ

def imgC (l : List Nat) : List Nat := if storeB l.length = true then imageL l else []
/-- The bytes when i cells are written. -/
def imgA (l : List Nat) (i : Nat) : List Nat := l.length / 64 :: (l.take i).flatMap fourB
def imgI (l : List Nat) (i : Nat) : List Nat := imgA l i ++ List.replicate (4 * (l.length - i) + 4) 0
theorem imgA_len {l : List Nat} {i : Nat} (hi : i ≤ l.length) : (imgA l i).length = 1 + 4 * i := by
  unfold imgA
  rw [List.length_cons, four_len, List.length_take]
  omega
theorem imgI_len {l : List Nat} {i : Nat} (hi : i ≤ l.length) : (imgI l i).length = 5 + 4 * l.length := by
  unfold imgI
  rw [List.length_append, imgA_len hi, List.length_replicate]
  omega
theorem splice_tail {α : Type} (A R cs : List α) : splice (A ++ R) A.length cs = A ++ cs ++ R.drop cs.length := by
  unfold splice
  rw [List.take_left, List.drop_append, List.drop_eq_nil_of_le (by omega), List.nil_append, Nat.add_sub_cancel_left, List.append_assoc]
theorem imgA_succ {l : List Nat} {i : Nat} (hi : i < l.length) : imgA l (i + 1) = imgA l i ++ fourB l[i] := by
  unfold imgA
  rw [List.take_succ_eq_append_getElem hi, List.flatMap_append, List.cons_append]
  simp
theorem imgI_step {l : List Nat} {i : Nat} (hi : i < l.length) : splice ((imgI l i).map b8v) (1 + 4 * i) ((fourB l[i]).map b8v) = (imgI l (i + 1)).map b8v := by
  have h4 : (fourB l[i]).length = 4 := rfl
  have hl : ((imgA l i).map b8v).length = 1 + 4 * i := by rw [List.length_map, imgA_len (by omega)]
  have e : (imgI l i).map b8v = (imgA l i).map b8v ++ (List.replicate (4 * (l.length - i) + 4) 0).map b8v := by unfold imgI; rw [List.map_append]
  rw [e, ← hl, splice_tail, List.length_map, h4, ← List.map_drop, ← List.map_append, ← List.map_append, ← imgA_succ hi, List.drop_replicate]
  unfold imgI
  congr 3
  omega
theorem imgI_last (l : List Nat) : splice ((imgI l l.length).map b8v) (1 + 4 * l.length) ((fourB (sumL l)).map b8v) = (imageL l).map b8v := by
  have h4 : (fourB (sumL l)).length = 4 := rfl
  have hl : ((imgA l l.length).map b8v).length = 1 + 4 * l.length := by rw [List.length_map, imgA_len (Nat.le_refl _)]
  have e : (imgI l l.length).map b8v = (imgA l l.length).map b8v ++ (List.replicate (4 * (l.length - l.length) + 4) 0).map b8v := by unfold imgI; rw [List.map_append]
  rw [e, ← hl, splice_tail, List.length_map, h4, ← List.map_drop, ← List.map_append, ← List.map_append, List.drop_replicate]
  unfold imgA imageL
  rw [List.take_length, List.flatMap_append]
  simp
theorem imgI_zero (l : List Nat) : (List.replicate (5 + 4 * l.length) 0).set 0 (l.length / 64) = imgI l 0 := by
  unfold imgI imgA
  rw [show 5 + 4 * l.length = 4 * l.length + 4 + 1 by omega, List.replicate_succ, List.set_cons_zero]
  simp
theorem zeros_b8 (n : Nat) : (madeCells (Value.int .u8 0).cells (n * 1)).toList = (List.replicate n 0).map b8v := by
  rw [Nat.mul_one]
  refine (toList_madeCells_one _ _).trans ?_
  simp [b8v]
theorem impl_imagesize (A : Option Addr) (n c : Nat) (hn : n ≤ 768) (w : World) : Calls Try.prog 59 #[stA (.slice A n c)] w fun e w' => e = .returned (.int .i64 ((5 + 4 * n : Nat) : Int)) ∧ Below w.heap.size w w' := by
  go_enter Try.func59, Try.ntmps59
  go_wp2
  go_ret
  refine ⟨?_, below_alloc _ _⟩
  show Ending.returned (.int .i64 (1 + 4 * ((n : Int) + 1))) = _
  congr 2
  omega

set_option maxHeartbeats 2000000 in
theorem impl_imageof_yes (v : Value) (xs : List Nat) (hxs : ∀ x ∈ xs, x < 4294967296) (w : World) (hr : RdN w v xs) (h1 : xs.length % 64 = 0) (h2 : xs.length ≤ 768) : Calls Try.prog 17 #[stA v] w (NewM w (imageL xs)) := by
  obtain ⟨i0, hi, hz0, hz1, hz2⟩ := info_parts infoB8
  have HRD := Lib.hid (fun W (hb : Below w.heap.size w W) => hr.below hb)
  obtain ⟨A, c, rfl⟩ := hr.form
  have HS := Lib.hid (fun W => impl_storeok A xs.length c hr.small W)
  rw [show storeB xs.length = true from decide_eq_true ⟨h1, h2⟩] at HS
  have HZ := Lib.hid (fun W => impl_imagesize A xs.length c h2 W)
  have HB := Lib.hid (fun W => impl_blockcount A xs.length c hr.small W)
  have HX := Lib.hid hxs
  obtain ⟨n, hn⟩ : ∃ n, 5 + 4 * xs.length = n := ⟨_, rfl⟩
  rw [hn] at HZ
  have HN := Lib.hid hn
  have hn5 : 5 ≤ n := by omega
  have hn9 : n ≤ 4000 := by omega
  obtain ⟨q, hq⟩ : ∃ q, xs.length / 64 = q := ⟨_, rfl⟩
  have hq12 : q ≤ 12 := by omega
  rw [hq] at HB
  have HQ := Lib.hid hq
  clear hr hxs h1 hn hq
  go_enter Try.func17, Try.ntmps17
  go_wp2_with fail
  refine (HS.out _).mono ?_
  rintro e w1 ⟨rfl, hb1⟩
  obtain ⟨k1, hB1, hz⟩ := boxes1 hb1
  have c1 : w1.cell? ⟨w.heap.size, 0, none⟩ = some (.slice A xs.length c) := k1.cell 0
  have K1 := Lib.hid k1
  have HB1 := Lib.hid hB1
  clear hb1 k1 hB1 HS
  go_wp2_with fail
  refine (HZ.out _).mono ?_
  rintro e w2 ⟨rfl, hb2⟩
  have k2 := K1.out.below hb2 K1.out.lt
  have HB2 := Lib.hid (HB1.out.trans (hb2.mono HB1.out.size))
  have K2 := Lib.hid k2
  clear hb2 c1 K1 HB1 HZ k2
  go_wp2_with (at_make; refine wpList_make_full _ rfl _ _ _ rfl w2.heap.size 5 i0 (.int .u8 0) 1 Try.underlying22 hi hz0 hz1 .i64 .i64 _ _ n rfl rfl rfl rfl (by rw [hz2]; omega) (by unfold maxLen; omega) (Nat.le_refl _) ?_; intro w3 hown hgr; have hB3 := HB2.out.grown hgr HB2.out.size (fun k hk => by cases hk); have k3 := K2.out.grown hgr (by simp); have c3 : w3.cell? ⟨w.heap.size, 0, none⟩ = some (.slice A xs.length c) := k3.cell 0; rw [zeros_b8] at hown; have HO := Lib.hid hown; have HB3 := Lib.hid hB3; have K3 := Lib.hid k3; clear hown hgr hB3 k3)
  refine (HB.out _).mono ?_
  rintro e w4 ⟨rfl, hb4⟩
  have ho4 := own_below HO.out hb4 (Nat.le_refl _)
  have hd4 : w4.cell? ⟨w2.heap.size, 0, none⟩ = some (.int .u8 0) := by
    rw [ho4.cellAt 0 (by omega), List.map_replicate, List.getElem?_replicate, if_pos (by omega)]
    rfl
  have hf4 := ho4.frozenAt 0
  have hs4 := ho4.stored 0 (.int .u8 (q : Int))
  have e0 : ((List.replicate n 0).map b8v).set 0 (.int .u8 (q : Int)) = (imgI xs 0).map b8v := by
    rw [show Value.int .u8 (q : Int) = b8v q from rfl, ← List.map_set, ← imgI_zero, HN.out, HQ.out]
  rw [e0] at hs4
  have hB4 := HB3.out.trans (hb4.mono HB3.out.size)
  have hB5 := hB4.grown hs4.2 hB4.size (fun k hk => by injection hk with hk; have := HB2.out.size; omega)
  have k4 := K3.out.below hb4 K3.out.lt
  have hgb : w.heap.size < w2.heap.size := by have := K2.out.lt; omega
  have k5 := k4.grown hs4.2 (fun e => by injection e with e; omega)
  have hstart : Hid ((w4.setCell ⟨w2.heap.size, 0, none⟩ (.int .u8 (q : Int))).heap[w2.heap.size]? = some (.cells ((imgI xs 0).map b8v).toArray 5 (0, 0))) := Lib.hid (own_full hs4.1 (by omega))
  have c5 : (w4.setCell ⟨w2.heap.size, 0, none⟩ (.int .u8 (q : Int))).cell? ⟨w.heap.size, 0, none⟩ = some (.slice A xs.length c) := k5.cell 0
  have HB5 := Lib.hid hB5
  have K5 := Lib.hid k5
  clear hb4 ho4 hs4 e0 hB4 hB5 k4 k5 HO K3 K2 HB3 c3
  have hq256 : (q : Int) % 256 = (q : Int) := by omega
  go_wp2_with fail
  obtain ⟨W5, hW5⟩ : ∃ W5, w4.setCell ⟨w2.heap.size, 0, none⟩ (.int .u8 (q : Int)) = W5 := ⟨_, rfl⟩
  rw [hW5] at hstart HB5 K5 c5 ⊢
  clear hW5 hd4 hf4
  go_loopw [4, 21] (fun va vi wr => ∃ i : Nat, vi = .int .i64 i ∧ va = .int .i64 ((1 + 4 * i : Nat) : Int) ∧ i ≤ xs.length ∧ Hid (wr.heap[w2.heap.size]? = some (.cells ((imgI xs i).map b8v).toArray 5 (0, 0))) ∧ Hid (Below w.heap.size w wr) ∧ Hid (W5.grownBy wr (some w2.heap.size))) (fun _ vi _ => xs.length - (intOf vi).toNat)
  case atStart => exact ⟨0, rfl, rfl, by omega, hstart, HB5, Lib.hid (World.grownBy.refl _ _)⟩
  case round =>
    clear hstart
    obtain ⟨i, rfl, rfl, hi, HR, HBr, HGr⟩ := hrel
    have hat : ((1 + 4 * i : Nat) : Int) = 1 + 4 * (i : Int) := by omega
    by_cases hp : i < xs.length
    · rw [hat]
      have i2 : (i : Int) < (xs.length : Int) := by omega
      obtain ⟨a, hA0, hcy⟩ := rd_src (HRD.out _ HBr.out) (by omega)
      subst hA0
      have hci : wr.cell? (a.add i) = some (.int .u32 (xs[i] : Int)) := hcy i _ (by simp [hp, u32v])
      have hii := imgI_len (l := xs) (i := i) (by omega)
      have hn0 : 5 + 4 * xs.length = n := HN.out
      have HP := Lib.hid (impl_putcell w2.heap.size (1 + 4 * i) (n - (1 + 4 * i)) (n - (1 + 4 * i)) ((imgI xs i).map b8v) xs[i] (HX.out _ (List.getElem_mem hp)) (by omega) (by rw [List.length_map, hii]; omega) wr HR.out)
      have j1 : (1 + 4 * (i : Int)) ≤ (n : Int) := by omega
      have j2 : ¬ n = 1 + 4 * i := by omega
      clear hcy hii hn0 hat
      have HST := Lib.hid (imgI_step hp)
      go_wp2_with fail
      refine HP.out.mono ?_
      rintro e w6 ⟨rfl, hg6, hgr6⟩
      have HG6 := Lib.hid hg6
      have HR6 := Lib.hid hgr6
      clear hg6 hgr6 HP hci
      go_wp2_with fail
      go_roundw
      case rel => exact ⟨i + 1, by go_num, by go_num, by omega, Lib.hid (by rw [← HST.out]; exact HG6.out), Lib.hid (HBr.out.grown HR6.out HBr.out.size (fun k hk => by injection hk with hk; omega)), Lib.hid (only_trans HGr.out HR6.out)⟩
      case measure => simp [intOf]; omega
    · obtain rfl : i = xs.length := by omega
      obtain ⟨p, hpp⟩ : ∃ p, 1 + 4 * xs.length = p := ⟨_, rfl⟩
      have HPP := Lib.hid hpp
      rw [hpp]
      have hii := imgI_len (l := xs) (i := xs.length) (Nat.le_refl _)
      have hn0 : 5 + 4 * xs.length = n := HN.out
      have HSUM := Lib.hid (impl_sum (.slice A xs.length c) xs HX.out wr.drew (HRD.out _ HBr.out.drew))
      obtain ⟨z, hz⟩ : ∃ z, sumL xs = z := ⟨_, rfl⟩
      have hzl := sumL_lt xs
      rw [hz] at HSUM hzl
      have HZZ := Lib.hid hz
      have HP := Lib.hid (impl_putcell w2.heap.size p (n - p) (n - p) ((imgI xs xs.length).map b8v) z hzl (by omega) (by rw [List.length_map, hii]; omega) wr.drew HR.out)
      have j0 : (0 : Int) ≤ (p : Int) := by omega
      have j1 : (p : Int) ≤ (n : Int) := by omega
      have j2 : ¬ n = p := by omega
      have kb := K5.out.grown HGr.out (fun e => by injection e with e; omega)
      have cb : wr.cell? ⟨w.heap.size, 0, none⟩ = some (.slice A xs.length c) := kb.cell 0
      have KB := Lib.hid kb
      clear hii hn0 hat hpp kb hz hzl K5 c5
      go_wp2_with fail
      go_region_held3 (fun w' => w'.cell? ⟨w.heap.size, 0, none⟩ = some (.slice A xs.length c)) (first | exact KB.out.cell 0 | go_keep | exact hc7) (first | (go_at_call 29; refine HSUM.out.mono ?_; rintro e w6 ⟨rfl, rfl⟩) | (go_at_call 61; refine HP.out.mono ?_; rintro e w7 ⟨rfl, hg7, hr7⟩; have k7 := KB.out.drew.grown hr7 (fun e => by injection e with e; omega); have hc7 : w7.cell? ⟨w.heap.size, 0, none⟩ = some (.slice A xs.length c) := k7.cell 0; have HG7 := Lib.hid hg7; have HR7 := Lib.hid hr7; clear hg7 hr7 k7))
      clear hc7 cb
      go_wp2_with fail
      go_ret
      have hl := imageL_len xs
      have hg := HG7.out
      have hpe : p = 1 + 4 * xs.length := HPP.out.symm
      have hze : z = sumL xs := HZZ.out.symm
      rw [hpe, hze, imgI_last] at hg
      have hne : n = (imageL xs).length := by rw [hl]; exact HN.out.symm
      refine ⟨_, rfl, ?_, HBr.out.drew.grown HR7.out HBr.out.size (fun k hk => by injection hk with hk; omega)⟩
      have ho := own_of_full (base := w.heap.size) (n := n) hg (by rw [List.length_map]; exact hne.symm) (by omega) (by unfold maxLen; omega)
      rw [← hne]
      exact ho

theorem newm_none {w w1 : World} (hb : Below w.heap.size w w1) : NewM w [] (.returned (.slice none 0 0)) w1 := ⟨_, rfl, World.ownsRow_nil _ _ _ _, hb⟩
theorem newm_empty {w w1 : World} (hb : Below w.heap.size w w1) : NewM w [] (.returned (.slice (some ⟨w1.heap.size, 0, none⟩) 0 0)) (w1.alloc (.cells #[] 5)) :=
  ⟨_, rfl, (own_empty w1 5).mono hb.size, hb.alloc hb.size _⟩
theorem impl_imageof (v : Value) (xs : List Nat) (hxs : ∀ x ∈ xs, x < 4294967296) (w : World) (hr : RdN w v xs) : Calls Try.prog 17 #[stA v] w (NewM w (imgC xs)) := by
  by_cases hs : storeB xs.length = true
  · have e : imgC xs = imageL xs := if_pos hs
    rw [e]
    exact impl_imageof_yes v xs hxs w hr (of_decide_eq_true hs).1 (of_decide_eq_true hs).2
  · have e : imgC xs = [] := if_neg hs
    have hs : storeB xs.length = false := by simpa using hs
    rw [e]
    obtain ⟨A, c, rfl⟩ := hr.form
    have HS := Lib.hid (fun W => impl_storeok A xs.length c hr.small W)
    rw [hs] at HS
    clear hr hxs hs e
    go_enter Try.func17, Try.ntmps17
    go_wp2_with fail
    refine (HS.out _).mono ?_
    rintro e w1 ⟨rfl, hb1⟩
    obtain ⟨-, hB1, -⟩ := boxes1 hb1
    have HB1 := Lib.hid hB1
    clear hb1 hB1
    go_wp2_with fail
    go_ret
    exact newm_none HB1.out
end Go.Proofs.Ytcddkcejjajlhaa
