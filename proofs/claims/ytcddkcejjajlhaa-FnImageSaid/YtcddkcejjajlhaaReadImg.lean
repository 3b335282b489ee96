/-
  A store out of its bytes: the program's way.
-/
import Derived.Test.YtcddkcejjajlhaaCellAt
import Derived.Test.YtcddkcejjajlhaaImgMath
import Derived.Test.YtcddkcejjajlhaaBytesEq
import Derived.Test.YtcddkcejjajlhaaPutBlk
namespace Go.Proofs.Ytcddkcejjajlhaa
open Go.RowKit Go

attribute [local go_sem ↓] Go.wp_at_zero Go.wp_at_succ
theorem readL_no {bs : List Nat} (h : readOk bs = false) : readL bs = [] := by unfold readL; rw [if_neg (by rw [h]; decide)]
theorem impl_readimage_nil (A : Option Addr) (c : Nat) (w : World) : Calls Try.prog 19 #[.slice A 0 c] w (NewR (pairSV false) w []) := by
  go_enter Try.func19, Try.ntmps19
  go_wp2_with fail
  exact bodyPost_ret (v := pairSV false (.slice none 0 0)) (by simp [results, Try.results19, go_sem]) rfl (newr_none (below_alloc _ _))

/-- Bytes in a block that they begin. -/
structure BytesAt (w : World) (g n : Nat) (bs : List Nat) : Prop where
  len : bs.length = n
  lt : g < w.heap.size
  cell : ∀ j, j < n → w.cell? ⟨g, j, none⟩ = some (.int .u8 ((bs.getD j 0 : Nat) : Int))
  small : ∀ y ∈ bs, y < 256
theorem BytesAt.byte {w : World} {g n : Nat} {bs : List Nat} (h : BytesAt w g n bs) (j : Nat) : bs.getD j 0 < 256 := by
  rw [List.getD_eq_getElem?_getD]
  cases hq : bs[j]? with
  | none => decide
  | some y => exact h.small y (List.mem_of_getElem? hq)
theorem BytesAt.below {w w' : World} {g n : Nat} {bs : List Nat} (h : BytesAt w g n bs) (hb : Below w.heap.size w w') : BytesAt w' g n bs :=
  ⟨h.len, Nat.lt_of_lt_of_le h.lt hb.size, fun j hj => (hb.cell (p := ⟨g, j, none⟩) h.lt).trans (h.cell j hj), h.small⟩
theorem bytes_at {w : World} {g n c : Nat} {bs : List Nat} (h : RdM w (.slice (some ⟨g, 0, none⟩) n c) bs) (hn : 0 < n) (hs : ∀ y ∈ bs, y < 256) : BytesAt w g n bs := by
  obtain ⟨A0, cap0, e0, hl, hc⟩ := h
  injection e0 with e1 e2 e3
  have key : ∀ j (hj : j < bs.length), g < w.heap.size ∧ w.cell? ⟨g, j, none⟩ = some (b8v bs[j]) := fun j hj => by
    obtain ⟨a0, ha0, hlt, hcell⟩ := hc j hj
    rw [← e1] at ha0
    injection ha0 with ha0
    subst ha0
    rw [addr_lit, Nat.zero_add] at hcell
    exact ⟨hlt, hcell⟩
  refine ⟨e2.symm, (key 0 (by omega)).1, fun j hj => ?_, hs⟩
  rw [(key j (by omega)).2, List.getD_eq_getElem?_getD, List.getElem?_eq_getElem (by omega)]
  rfl
theorem BytesAt.keepB {w w' : World} {g n : Nat} {bs : List Nat} (h : BytesAt w g n bs) (hb : Below w.heap.size w w') : BytesAt w' g n bs := h.below hb
theorem headD_at (bs : List Nat) : bs.headD 0 = bs.getD 0 0 := by cases bs <;> rfl

set_option maxHeartbeats 2000000 in
theorem impl_readimage_size (g n c : Nat) (bs : List Nat) (hn : 0 < n) (hn2 : n ≤ 4194304) (w : World) (hr : BytesAt w g n bs) (hz : n ≠ 5 + 4 * cellN (bs.headD 0)) :
    Calls Try.prog 19 #[.slice (some ⟨g, 0, none⟩) n c] w (NewR (pairSV false) w []) := by
  have hb256 := hr.byte 0
  rw [← headD_at] at hb256
  have hcell := hr.cell 0 hn
  rw [← headD_at] at hcell
  obtain ⟨b, hb⟩ : ∃ b, bs.headD 0 = b := ⟨_, rfl⟩
  rw [hb] at hz hb256 hcell
  have hlt := hr.lt
  have HNS := Lib.hid (fun W => impl_newstore (b : Int) W)
  rw [newL_cellN] at HNS
  have hcn : cellN b ≤ 768 := by unfold cellN; split <;> omega
  have HIS := Lib.hid (fun A c W => impl_imagesize A (cellN b) c hcn W)
  obtain ⟨k, hk⟩ : ∃ k, cellN b = k := ⟨_, rfl⟩
  rw [hk] at HNS hz hcn HIS
  obtain ⟨m, hm⟩ : ∃ m, 5 + 4 * k = m := ⟨_, rfl⟩
  rw [hm] at HIS hz
  have hz2 : ((n : Int) != (m : Int)) = true := by simp; omega
  have hn1 : ((n : Int) == 0) = false := by simp; omega
  have i0 : (0 : Int) < (n : Int) := by omega
  have HNE := Lib.hid (show g < w.heap.size from hlt)
  have c0 : (w.alloc (.cells #[.slice none 0 0] 26)).cell? ⟨g, 0, none⟩ = some (.int .u8 (b : Int)) := ((below_alloc w _).cell (p := ⟨g, 0, none⟩) hlt).trans hcell
  clear hb hz hk hm hr hcell
  go_enter Try.func19, Try.ntmps19
  go_wp2_with fail
  refine (HNS.out _).mono ?_
  rintro e w1 ⟨v, rfl, hown, hb1⟩
  rw [List.length_replicate] at hown
  obtain ⟨A1, c1, rfl⟩ := own_form hown
  obtain ⟨k1, hB1, hz1⟩ := boxes1 hb1
  have HB1 := Lib.hid hB1
  have K1 := Lib.hid k1
  clear hb1 hB1 k1 hown c0
  go_wp2_with fail
  refine (HIS.out _ _ _).mono ?_
  rintro e w2 ⟨rfl, hb2⟩
  obtain ⟨k2, hB2, hz2'⟩ := boxes1 hb2
  have k3 := K1.out.below hB2 K1.out.lt
  have c3 : w2.cell? ⟨w.heap.size, 0, none⟩ = some (.slice none 0 0) := k3.cell 0
  have f3 := k3.frozen 0
  have K3 := Lib.hid k3
  have HB2 := Lib.hid (HB1.out.trans (hB2.mono HB1.out.size))
  clear hb2 hB2 k2 k3 K1
  go_wp2_with fail
  have e0 : _ = some _ := (st_blk K3.out (.slice none 0 0)).cell 0
  exact bodyPost_ret (v := pairSV false (.slice none 0 0)) (by simp [results, Try.results19, e0, go_sem]) rfl (newr_none (HB2.out.setCell (Nat.le_refl _) _))

/-- The cells when i of them are read. -/
def rdI (bs : List Nat) (k i : Nat) : List Nat := (wordsN bs).take i ++ List.replicate (k - i) 0
theorem rdI_len {bs : List Nat} {k i : Nat} (hk : (wordsN bs).length = k) (hi : i ≤ k) : (rdI bs k i).length = k := by
  unfold rdI
  rw [List.length_append, List.length_take, List.length_replicate]
  omega
theorem rdI_zero (bs : List Nat) (k : Nat) : rdI bs k 0 = List.replicate k 0 := by
  unfold rdI
  simp
theorem rdI_full {bs : List Nat} {k : Nat} (hk : (wordsN bs).length = k) : rdI bs k k = wordsN bs := by
  unfold rdI
  rw [List.take_of_length_le (by omega), Nat.sub_self]
  simp
theorem rdI_set {bs : List Nat} {k i : Nat} (hk : (wordsN bs).length = k) (hi : i < k) : ((rdI bs k i).map u32v).set i (u32v ((wordsN bs).getD i 0)) = (rdI bs k (i + 1)).map u32v := by
  rw [← List.map_set]
  congr 1
  unfold rdI
  have h1 : ((wordsN bs).take i).length = i := by rw [List.length_take]; omega
  obtain ⟨m, hm⟩ : ∃ m, k - i = m + 1 := ⟨k - i - 1, by omega⟩
  rw [hm, show k - (i + 1) = m by omega, List.replicate_succ, List.set_append_right _ _ (by omega), h1, Nat.sub_self, List.set_cons_zero, List.take_succ_eq_append_getElem (by omega), List.getD_eq_getElem?_getD, List.getElem?_eq_getElem (by omega), List.append_assoc]
  rfl
theorem wordsN_at {bs : List Nat} {k i : Nat} (h : bs.length = 5 + 4 * k) (hk : cellN (bs.headD 0) = k) (hi : i < k) : (wordsN bs).getD i 0 = wordB (bs.getD (1 + 4 * i) 0) (bs.getD (1 + 4 * i + 1) 0) (bs.getD (1 + 4 * i + 2) 0) (bs.getD (1 + 4 * i + 3) 0) := by
  have e := wordsB_at (k + 1) bs.tail i (by rw [List.length_tail]; omega) (by omega)
  have ht : ∀ j, bs.tail.getD j 0 = bs.getD (j + 1) 0 := fun j => by cases bs <;> rfl
  rw [ht, ht, ht, ht] at e
  have e2 : (wordsN bs).getD i 0 = (wordsB bs.tail).getD i 0 := by
    unfold wordsN
    rw [hk, List.getD_eq_getElem?_getD, List.getD_eq_getElem?_getD, List.getElem?_take, if_pos hi]
  have hg : ∀ a b, a = b → bs.getD a 0 = bs.getD b 0 := fun a b h => by rw [h]
  rw [e2, e]
  exact congr (congr (congr (congrArg wordB (hg _ _ (by omega))) (hg _ _ (by omega))) (hg _ _ (by omega))) (hg _ _ (by omega))

theorem rd_own'' {w : World} {base : Nat} {e : TypeId} {v : Value} {n : Nat} {ls : List Nat} (h : w.ownsRow base e 1 v n (ls.map u32v)) (hl : n ≤ 4611686018427387904) : RdN w v ls := by
  have hn : ls.length = n := by have := h.1; simpa using this
  subst hn
  exact RdN.of_own h hl
theorem fourB_small (c : Nat) : ∀ y ∈ fourB c, y < 256 := by
  intro y hy
  simp [fourB] at hy
  omega
theorem imageL_small (l : List Nat) (hl : l.length ≤ 768) : ∀ y ∈ imageL l, y < 256 := by
  intro y hy
  unfold imageL at hy
  rcases List.mem_cons.1 hy with rfl | h
  · omega
  · obtain ⟨c, _, h2⟩ := List.mem_flatMap.1 h
    exact fourB_small c y h2
set_option maxHeartbeats 4000000 in
theorem impl_readimage_main (g n c : Nat) (bs : List Nat) (hcap : n ≤ c) (w : World) (hr : BytesAt w g n bs) (hrb : RdM w (.slice (some ⟨g, 0, none⟩) n c) bs) (k : Nat) (hk : cellN (bs.headD 0) = k) (hz : n = 5 + 4 * k) :
    Calls Try.prog 19 #[.slice (some ⟨g, 0, none⟩) n c] w (NewR (pairSV (readOk bs)) w (readL bs)) := by
  have hb256 := hr.byte 0
  rw [← headD_at] at hb256
  have hcell := hr.cell 0 (by omega)
  rw [← headD_at] at hcell
  have HW := Lib.hid (wordsN_len (bs := bs) (by rw [hk, hr.len]; exact hz))
  have HOK := Lib.hid (readOk_iff (bs := bs) (by rw [hk, hr.len]; exact hz) hr.small)
  have HAT := Lib.hid (fun i (hi : i < k) => wordsN_at (bs := bs) (by rw [hr.len]; exact hz) hk hi)
  rw [hk] at HW
  have HRB := Lib.hid hrb
  have HSM : Hid (∀ c ∈ wordsN bs, c < 4294967296) := Lib.hid fun x hx => wordsB_small (k + 1) (by rw [List.length_tail, hr.len]; omega) (fun y hy => hr.small y (List.mem_of_mem_tail hy)) x (List.mem_of_mem_take hx)
  have HST0 : Hid (storeB k = true) := Lib.hid (decide_eq_true (by rw [← hk]; unfold cellN; split <;> omega))
  clear hrb
  have HBY := Lib.hid hr
  have HNO := Lib.hid (fun h => readL_no (bs := bs) h)
  have HYES := Lib.hid (fun h => readL_words (bs := bs) h)
  obtain ⟨b, hb⟩ : ∃ b, bs.headD 0 = b := ⟨_, rfl⟩
  rw [hb] at hk hb256 hcell
  have hlt := hr.lt
  have HNS := Lib.hid (fun W => impl_newstore (b : Int) W)
  rw [newL_cellN, hk] at HNS
  have hcn : k ≤ 768 := by rw [← hk]; unfold cellN; split <;> omega
  have HIS := Lib.hid (fun A c W => impl_imagesize A k c hcn W)
  rw [← hz] at HIS
  have hn1 : ((n : Int) == 0) = false := by simp; omega
  have i0 : (0 : Int) < (n : Int) := by omega
  have c0 : (w.alloc (.cells #[.slice none 0 0] 26)).cell? ⟨g, 0, none⟩ = some (.int .u8 (b : Int)) := ((below_alloc w _).cell (p := ⟨g, 0, none⟩) hlt).trans hcell
  have HZN := Lib.hid hz
  have hn9 : n ≤ 4000 := by omega
  clear hb hz hk hr hcell
  go_enter Try.func19, Try.ntmps19
  go_wp2_with fail
  refine (HNS.out _).mono ?_
  rintro e w1 ⟨v, rfl, hown, hb1⟩
  rw [List.length_replicate] at hown
  obtain ⟨A1, c1, rfl⟩ := own_form hown
  obtain ⟨k1, hB1, hz1⟩ := boxes1 hb1
  have HB1 := Lib.hid hB1
  have K1 := Lib.hid k1
  have HO1 := Lib.hid (hown.mono (show w.heap.size + 1 ≤ _ by simp))
  clear hb1 hB1 k1 hown c0
  go_wp2_with fail
  refine (HIS.out _ _ _).mono ?_
  rintro e w2 ⟨rfl, hb2⟩
  obtain ⟨k2, hB2, hz2'⟩ := boxes1 hb2
  have k3 := K1.out.below hB2 K1.out.lt
  have K3 := Lib.hid k3
  have K2 := Lib.hid k2
  have HB2 := Lib.hid (HB1.out.trans (hB2.mono HB1.out.size))
  have HO2 := Lib.hid (own_below HO1.out hB2 (Nat.le_refl _))
  have c2 : w2.cell? ⟨w1.heap.size, 0, none⟩ = some (.slice A1 k c1) := k2.cell 0
  have HL2 := Lib.hid (fun q hq => (World.ownsRow.lt HO1.out q hq).2)
  have HLO := Lib.hid (fun q hq => own_lt HO1.out q hq)
  clear hb2 hB2 k2 k3 K1 HO1 HB1
  go_wp2_with fail
  go_loopw [24] (fun vi wr => ∃ i : Nat, vi = .int .i64 i ∧ i ≤ k ∧ Hid (wr.ownsRow (w.heap.size + 1) 43 1 (.slice A1 k c1) k ((rdI bs k i).map u32v)) ∧ Hid (Below w.heap.size w wr) ∧ Hid (Blk wr w.heap.size 26 #[.slice none 0 0]) ∧ Hid (Blk wr w1.heap.size 26 #[.slice A1 k c1])) (fun vi _ => k - (intOf vi).toNat)
  case atStart => exact ⟨0, rfl, by omega, Lib.hid (by rw [rdI_zero]; exact HO2.out), HB2, K3, K2⟩
  case round =>
    clear c2 HO2 HB2 K3 K2
    obtain ⟨i, rfl, hi, HO, HB, KA, KB⟩ := hrel
    by_cases hp : i < k
    · have i2 : (i : Int) < (k : Int) := by omega
      obtain ⟨g2, cap2, cur, hv, hrow⟩ := own_row HO.out (by omega)
      injection hv with hv1 _ hv3
      subst hv1 hv3
      have hne1 : w1.heap.size ≠ g2 := fun e => by
        have := HL2.out g2 rfl
        omega
      have hge : w.heap.size + 1 ≤ g2 := HLO.out g2 rfl
      have hyb := HBY.out.keepB HB.out
      obtain ⟨p, hpp⟩ : ∃ p, 1 + 4 * i = p := ⟨_, rfl⟩
      have hzn : n = 5 + 4 * k := HZN.out
      have HV : Hid ((wordsN bs).getD i 0 = wordB (bs.getD p 0) (bs.getD (p + 1) 0) (bs.getD (p + 2) 0) (bs.getD (p + 3) 0)) := Lib.hid (by rw [← hpp]; exact HAT.out i hp)
      have HCA := Lib.hid (impl_cellat g p (n - p) (c - p) _ _ _ _ (hyb.byte p) (hyb.byte (p + 1)) (hyb.byte (p + 2)) (hyb.byte (p + 3)) (by omega) wr.drew (hyb.cell p (by omega)) (hyb.cell (p + 1) (by omega)) (hyb.cell (p + 2) (by omega)) (hyb.cell (p + 3) (by omega)))
      have hwl := wordB_lt (hyb.byte p) (hyb.byte (p + 1)) (hyb.byte (p + 2)) (hyb.byte (p + 3))
      obtain ⟨z, hzz⟩ : ∃ z, wordB (bs.getD p 0) (bs.getD (p + 1) 0) (bs.getD (p + 2) 0) (bs.getD (p + 3) 0) = z := ⟨_, rfl⟩
      rw [hzz] at HCA HV hwl
      have hst := HO.out.stored i (.int .u32 (z : Int))
      rw [show Value.int .u32 (z : Int) = u32v z from rfl, ← HV.out, rdI_set HW.out hp, HV.out] at hst
      have HST : Hid ((wr.setCell ⟨g2, i, none⟩ (.int .u32 (z : Int))).ownsRow (w.heap.size + 1) 43 1 (.slice (some ⟨g2, 0, none⟩) k c1) k ((rdI bs k (i + 1)).map u32v) ∧ wr.grownBy (wr.setCell ⟨g2, i, none⟩ (.int .u32 (z : Int))) (some g2)) := Lib.hid hst
      have hd : wr.cell? ⟨g2, i, none⟩ = some (u32v ((rdI bs k i)[i]'(by rw [rdI_len HW.out hi]; exact hp))) := by
        rw [HO.out.cellAt i (by omega)]
        simp [rdI_len HW.out hi, hp]
      have hf := HO.out.frozenAt i
      have e1 : IntKind.i64.wrap ((i : Int) * 4) = (i : Int) * 4 := by rw [IntKind.wrap_i64]; omega
      have e2 : IntKind.i64.wrap (1 + (i : Int) * 4) = (p : Int) := by rw [IntKind.wrap_i64]; omega
      have e3 : 1 + (i : Int) * 4 = (p : Int) := by omega
      have e4 : IntKind.i64.wrap (p : Int) = (p : Int) := by rw [IntKind.wrap_i64]; omega
      have j0 : (0 : Int) ≤ (p : Int) := by omega
      have j1 : (p : Int) ≤ (n : Int) := by omega
      have j3 : (n : Int) ≤ (c : Int) := by omega
      have j2 : ¬ c = p := by omega
      have i1 : (0 : Int) ≤ (i : Int) := by omega
      have cb : wr.cell? ⟨w1.heap.size, 0, none⟩ = some (.slice (some ⟨g2, 0, none⟩) k c1) := KB.out.cell 0
      have hc4 : (wr.setCell ⟨g2, i, none⟩ (.int .u32 (z : Int))).drew.cell? ⟨w1.heap.size, 0, none⟩ = some (.slice (some ⟨g2, 0, none⟩) k c1) := (Blk.drew (KB.out.far (p := ⟨g2, i, none⟩) hne1 (.int .u32 (z : Int)))).cell 0
      clear hpp hyb hzn hzz hst
      go_wp2_with fail
      go_region_held3 (fun w' => w'.cell? ⟨w1.heap.size, 0, none⟩ = some (.slice (some ⟨g2, 0, none⟩) k c1)) (first | exact KB.out.cell 0 | go_keep | exact hc4) (first | (go_at_call 62; refine HCA.out.mono ?_; rintro e w5 ⟨rfl, rfl⟩))
      clear e1 e2 e3 e4 hc4
      go_wp2_with fail
      go_roundw
      case rel => exact ⟨i + 1, by go_num, by omega, Lib.hid HST.out.1, Lib.hid (HB.out.grown (only_drew HST.out.2) HB.out.size (fun q hq => by injection hq with hq; omega)), Lib.hid (Blk.drew (KA.out.far (p := ⟨g2, i, none⟩) (by show w.heap.size ≠ g2; omega) _)), Lib.hid (Blk.drew (KB.out.far (p := ⟨g2, i, none⟩) hne1 _))⟩
      case measure => simp [intOf]; omega
    · obtain rfl : i = k := by omega
      have ho := HO.out
      rw [rdI_full HW.out] at ho
      have hrd := rd_own'' ho (by omega)
      have hkl : (wordsN bs).length = i := HW.out
      have himg : imgC (wordsN bs) = imageL (wordsN bs) := if_pos (by rw [hkl]; exact HST0.out)
      have HIM := Lib.hid (impl_imageof (.slice A1 i c1) (wordsN bs) HSM.out wr hrd)
      rw [himg] at HIM
      have hil : ∀ y ∈ imageL (wordsN bs), y < 256 := imageL_small _ (by rw [hkl]; omega)
      have HEQ := Lib.hid (fun v W (h : RdM W v (imageL (wordsN bs))) (h2 : RdM W (.slice (some ⟨g, 0, none⟩) n c) bs) => bytes_equal v _ (imageL (wordsN bs)) bs hil HBY.out.small W h h2)
      rw [← HOK.out] at HEQ
      have hlen := imageL_len (wordsN bs)
      rw [hkl] at hlen
      have HLEN := Lib.hid hlen
      have HO' := Lib.hid ho
      have cb : wr.cell? ⟨w1.heap.size, 0, none⟩ = some (.slice A1 i c1) := KB.out.cell 0
      clear ho hrd himg hil hlen hkl
      go_wp2_with fail
      refine HIM.out.mono ?_
      rintro e w5 ⟨u, rfl, hown5, hb5⟩
      have hR5 := rd_own8 hown5 (by rw [HLEN.out]; omega)
      have hB5 := HB.out.trans (hb5.mono HB.out.size)
      have HE5 := Lib.hid (HEQ.out u w5 hR5 (HRB.out.below hB5))
      have KA5 := Lib.hid (KA.out.below hb5 KA.out.lt)
      have KB5 := Lib.hid (KB.out.below hb5 KB.out.lt)
      have HO5 := Lib.hid (own_below HO'.out hb5 (Nat.le_refl _))
      have HB5 := Lib.hid hB5
      clear hown5 hb5 hR5 hB5 HIM cb HEQ
      go_wp2_with fail
      refine HE5.out.mono ?_
      rintro e w6 ⟨rfl, rfl⟩
      have c6 : w5.cell? ⟨w1.heap.size, 0, none⟩ = some (.slice A1 i c1) := KB5.out.cell 0
      have c7 : w5.cell? ⟨w.heap.size, 0, none⟩ = some (.slice none 0 0) := KA5.out.cell 0
      have f7 := KA5.out.frozen 0
      have HW2 := Lib.hid HW.out
      by_cases hok : readOk bs = true
      · have HK := Lib.hid hok
        go_wp2_with fail
        have e0 : _ = some _ := (st_blk KA5.out (.slice A1 i c1)).cell 0
        exact bodyPost_ret (v := pairSV true (.slice A1 i c1)) (by simp [results, Try.results19, e0, go_sem]) rfl
          (by rw [HK.out, HYES.out HK.out]; exact ⟨_, rfl, by rw [HW2.out]; exact (own_put HO5.out (Nat.lt_succ_self _) _).mono (Nat.le_succ _), HB5.out.setCell (Nat.le_refl _) _⟩)
      · have hok : readOk bs = false := by simpa using hok
        have HK := Lib.hid hok
        go_wp2_with fail
        have e0 : _ = some _ := (st_blk KA5.out (.slice none 0 0)).cell 0
        exact bodyPost_ret (v := pairSV false (.slice none 0 0)) (by simp [results, Try.results19, e0, go_sem]) rfl (by rw [HK.out, HNO.out HK.out]; exact newr_none (HB5.out.setCell (Nat.le_refl _) _))

theorem impl_readimage (w : World) (base : Nat) (v : Value) (bs : List Nat) (hs : ∀ y ∈ bs, y < 256) (hl : bs.length ≤ 4194304) (hown : w.ownsRow base 5 1 v bs.length (bs.map b8v)) :
    Calls Try.prog 19 #[v] w (NewR (pairSV (readOk bs)) w (readL bs)) := by
  rcases Nat.eq_zero_or_pos bs.length with h0 | h0
  · obtain rfl : bs = [] := List.eq_nil_of_length_eq_zero h0
    obtain ⟨A, c, rfl⟩ := own_form hown
    rw [readOk_nil, readL_no readOk_nil]
    exact impl_readimage_nil A c w
  · obtain ⟨g, cap, cur, rfl, hrow⟩ := own_row hown h0
    have hrb := rd_own8 hown (by omega)
    have hat := bytes_at hrb h0 hs
    by_cases hz : bs.length = 5 + 4 * cellN (bs.headD 0)
    · exact impl_readimage_main g _ cap bs hrow.le w hat hrb _ rfl hz
    · rw [readOk_size hz, readL_no (readOk_size hz)]
      exact impl_readimage_size g _ cap bs h0 hl w hat hz
end Go.Proofs.Ytcddkcejjajlhaa
