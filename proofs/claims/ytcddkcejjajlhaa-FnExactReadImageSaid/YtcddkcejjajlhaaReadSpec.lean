/-
  A store out of its bytes: the model's way.
-/
import Derived.Test.YtcddkcejjajlhaaReadImg
namespace Go.Proofs.Ytcddkcejjajlhaa
open Go.RowKit Go

attribute [local go_sem ↓] Go.wp_at_zero Go.wp_at_succ
theorem spec_readimage_short (A : Option Addr) (n c : Nat) (hn : n < 5) (w : World) : Calls Try.prog 55 #[.slice A n c] w (NewR (pairSV false) w []) := by
  have h5 : (n : Int) < 5 := by omega
  go_enter Try.func55, Try.ntmps55
  go_wp2_with fail
  exact bodyPost_ret (v := pairSV false (.slice none 0 0)) (by simp [results, Try.results55, go_sem]) rfl (newr_none (below_alloc _ _))
set_option maxRecDepth 100000 in
set_option maxHeartbeats 2000000 in
theorem spec_readimage_no (g n c : Nat) (bs : List Nat) (h5 : 5 ≤ n) (hn2 : n ≤ 4194304) (w : World) (hr : BytesAt w g n bs) (hz : 12 < bs.headD 0 ∨ n ≠ 5 + 256 * bs.headD 0) :
    Calls Try.prog 55 #[.slice (some ⟨g, 0, none⟩) n c] w (NewR (pairSV false) w []) := by
  have hb256 := hr.byte 0
  rw [← headD_at] at hb256
  have hcell := hr.cell 0 (by omega)
  rw [← headD_at] at hcell
  obtain ⟨b, hb⟩ : ∃ b, bs.headD 0 = b := ⟨_, rfl⟩
  rw [hb] at hz hb256 hcell
  have hlt := hr.lt
  have i0 : (0 : Int) < (n : Int) := by omega
  have i5 : ¬ (n : Int) < 5 := by omega
  have c0 : (w.alloc (.cells #[.slice none 0 0] 26)).cell? ⟨g, 0, none⟩ = some (.int .u8 (b : Int)) := ((below_alloc w _).cell (p := ⟨g, 0, none⟩) hlt).trans hcell
  clear hb hr hcell
  by_cases h12 : 12 < b
  · have i12 : (12 : Int) < (b : Int) := by omega
    go_enter Try.func55, Try.ntmps55
    go_wp2_with fail
    exact bodyPost_ret (v := pairSV false (.slice none 0 0)) (by simp [results, Try.results55, go_sem]) rfl (newr_none (below_alloc _ _))
  · have i12 : ¬ (12 : Int) < (b : Int) := by omega
    have hz2 : ((n : Int) != 5 + 256 * (b : Int)) = true := by simp; omega
    clear hz
    go_enter Try.func55, Try.ntmps55
    go_wp2_with fail
    exact bodyPost_ret (v := pairSV false (.slice none 0 0)) (by simp [results, Try.results55, go_sem]) rfl (newr_none (below_alloc _ _))

/-- Four bytes at a place. -/
def Four (w : World) (g p y0 y1 y2 y3 : Nat) : Prop := w.cell? ⟨g, p, none⟩ = some (.int .u8 (y0 : Int)) ∧ w.cell? ⟨g, p + 1, none⟩ = some (.int .u8 (y1 : Int)) ∧ w.cell? ⟨g, p + 2, none⟩ = some (.int .u8 (y2 : Int)) ∧ w.cell? ⟨g, p + 3, none⟩ = some (.int .u8 (y3 : Int))
theorem Four.kept {w w' : World} {g p y0 y1 y2 y3 : Nat} (h : Four w g p y0 y1 y2 y3) (hb : w'.heap[g]? = w.heap[g]?) : Four w' g p y0 y1 y2 y3 :=
  ⟨(World.cell?_of_block (a := ⟨g, p, none⟩) hb).trans h.1, (World.cell?_of_block (a := ⟨g, p + 1, none⟩) hb).trans h.2.1, (World.cell?_of_block (a := ⟨g, p + 2, none⟩) hb).trans h.2.2.1, (World.cell?_of_block (a := ⟨g, p + 3, none⟩) hb).trans h.2.2.2⟩
set_option maxRecDepth 100000 in
set_option maxHeartbeats 4000000 in
theorem spec_readimage_main (g n c : Nat) (bs : List Nat) (w : World) (hr : BytesAt w g n bs) (h12 : bs.headD 0 ≤ 12) (hz : n = 5 + 256 * bs.headD 0) :
    Calls Try.prog 55 #[.slice (some ⟨g, 0, none⟩) n c] w (NewR (pairSV (readOk bs)) w (readL bs)) := by
  obtain ⟨i0, hi, hz0, hz1, hz2⟩ := info_parts infoU32
  have hb256 := hr.byte 0
  rw [← headD_at] at hb256
  have hcell := hr.cell 0 (by omega)
  rw [← headD_at] at hcell
  obtain ⟨b, hb⟩ : ∃ b, bs.headD 0 = b := ⟨_, rfl⟩
  have HBB := Lib.hid hb
  rw [hb] at h12 hz hb256 hcell
  obtain ⟨k, hk⟩ : ∃ k, 64 * b = k := ⟨_, rfl⟩
  have hk768 : k ≤ 768 := by omega
  have hnk : n = 5 + 4 * k := by omega
  have HK := Lib.hid hk
  have HWL := Lib.hid (wordsB_len (k + 1) bs.tail (by rw [List.length_tail, hr.len]; omega))
  have HWA := Lib.hid (fun j (hj : j < k + 1) => wordsB_at (k + 1) bs.tail j (by rw [List.length_tail, hr.len]; omega) hj)
  have HSM := Lib.hid (wordsB_small (k + 1) (b := bs.tail) (by rw [List.length_tail, hr.len]; omega) (fun y hy => hr.small y (List.mem_of_mem_tail hy)))
  have HBY := Lib.hid hr
  have hlt := hr.lt
  have j0 : (0 : Int) < (n : Int) := by omega
  have j5 : ¬ (n : Int) < 5 := by omega
  have j12 : ¬ (12 : Int) < (b : Int) := by omega
  have jn : ((n : Int) != 5 + 256 * (b : Int)) = false := by simp; omega
  have c0 : (w.alloc (.cells #[.slice none 0 0] 26)).cell? ⟨g, 0, none⟩ = some (.int .u8 (b : Int)) := ((below_alloc w _).cell (p := ⟨g, 0, none⟩) hlt).trans hcell
  have HNK := Lib.hid hnk
  have hn9 : n ≤ 4000 := by omega
  clear hb hr hcell hz hk hnk
  go_enter Try.func55, Try.ntmps55
  go_wp2_with fail
  go_loopw [4, 5] (fun vl vi wr => ∃ j : Nat, vi = .int .i64 ((1 + 4 * j : Nat) : Int) ∧ j ≤ k + 1 ∧ Hid (wr.ownsRow (w.heap.size + 1) 43 1 vl j (((wordsB bs.tail).take j).map u32v)) ∧ Hid (Below w.heap.size w wr) ∧ Hid (Blk wr w.heap.size 26 #[.slice none 0 0])) (fun _ vi _ => n + 4 - (intOf vi).toNat)
  case atStart => exact ⟨0, rfl, by omega, Lib.hid (by simpa using own_empty (w.alloc (.cells #[.slice none 0 0] 26)) 43), Lib.hid (below_alloc2 _ _ _), Lib.hid ((Blk.new _ _ _).alloc _)⟩
  case round =>
    obtain ⟨j, rfl, hj, HO, HB, KA⟩ := hrel
    clear c0
    obtain ⟨p, hpp⟩ : ∃ p, 1 + 4 * j = p := ⟨_, rfl⟩
    have HPP := Lib.hid hpp
    have hnk : n = 5 + 4 * k := HNK.out
    rw [hpp]
    by_cases hp : j < k + 1
    · have i2 : (p : Int) < (n : Int) := by omega
      have hyb := HBY.out.keepB HB.out
      have b0 := hyb.byte p
      have b1 := hyb.byte (p + 1)
      have b2 := hyb.byte (p + 2)
      have b3 := hyb.byte (p + 3)
      have HV : Hid ((wordsB bs.tail).getD j 0 = wordB (bs.getD p 0) (bs.getD (p + 1) 0) (bs.getD (p + 2) 0) (bs.getD (p + 3) 0)) := Lib.hid (by
        have ht : ∀ q, bs.tail.getD q 0 = bs.getD (q + 1) 0 := fun q => by cases bs <;> rfl
        have hg : ∀ a b, a = b → bs.getD a 0 = bs.getD b 0 := fun a b h => by rw [h]
        rw [HWA.out j hp, ht, ht, ht, ht]
        exact congr (congr (congr (congrArg wordB (hg _ _ (by omega))) (hg _ _ (by omega))) (hg _ _ (by omega))) (hg _ _ (by omega)))
      have HC : Hid (Four wr g p _ _ _ _) := Lib.hid (And.intro (hyb.cell p (by omega)) (And.intro (hyb.cell (p + 1) (by omega)) (And.intro (hyb.cell (p + 2) (by omega)) (hyb.cell (p + 3) (by omega)))))
      have hg3 : g < wr.heap.size := hyb.lt
      obtain ⟨y0, hy0⟩ : ∃ y, bs.getD p 0 = y := ⟨_, rfl⟩
      obtain ⟨y1, hy1⟩ : ∃ y, bs.getD (p + 1) 0 = y := ⟨_, rfl⟩
      obtain ⟨y2, hy2⟩ : ∃ y, bs.getD (p + 2) 0 = y := ⟨_, rfl⟩
      obtain ⟨y3, hy3⟩ : ∃ y, bs.getD (p + 3) 0 = y := ⟨_, rfl⟩
      rw [hy0] at b0 HC HV
      rw [hy1] at b1 HC HV
      rw [hy2] at b2 HC HV
      rw [hy3] at b3 HC HV
      have e0 : (0 : Int) ≤ (p : Int) := by omega
      have e1 : IntKind.i64.wrap ((p : Int) + 1) = (p : Int) + 1 := by rw [IntKind.wrap_i64]; omega
      have e2 : IntKind.i64.wrap ((p : Int) + 2) = (p : Int) + 2 := by rw [IntKind.wrap_i64]; omega
      have e3 : IntKind.i64.wrap ((p : Int) + 3) = (p : Int) + 3 := by rw [IntKind.wrap_i64]; omega
      have m1 : (0 : Int) ≤ (p : Int) + 1 := by omega
      have m2 : (0 : Int) ≤ (p : Int) + 2 := by omega
      have m3 : (0 : Int) ≤ (p : Int) + 3 := by omega
      have t1 : ((p : Int) + 1).toNat = p + 1 := by omega
      have t2 : ((p : Int) + 2).toNat = p + 2 := by omega
      have t3 : ((p : Int) + 3).toNat = p + 3 := by omega
      have l1 : (p : Int) + 1 < (n : Int) := by omega
      have l2 : (p : Int) + 2 < (n : Int) := by omega
      have l3 : (p : Int) + 3 < (n : Int) := by omega
      have u0 : IntKind.u32.wrap (y0 : Int) = (y0 : Int) := by rw [IntKind.wrap_u32']; omega
      have u1 : IntKind.u32.wrap (y1 : Int) = (y1 : Int) := by rw [IntKind.wrap_u32']; omega
      have u2 : IntKind.u32.wrap (y2 : Int) = (y2 : Int) := by rw [IntKind.wrap_u32']; omega
      have u3 : IntKind.u32.wrap (y3 : Int) = (y3 : Int) := by rw [IntKind.wrap_u32']; omega
      have v1 : IntKind.u32.wrap ((y1 : Int) * 256) = (y1 : Int) * 256 := by rw [IntKind.wrap_u32']; omega
      have v2 : IntKind.u32.wrap ((y2 : Int) * 65536) = (y2 : Int) * 65536 := by rw [IntKind.wrap_u32']; omega
      have v3 : IntKind.u32.wrap ((y3 : Int) * 16777216) = (y3 : Int) * 16777216 := by rw [IntKind.wrap_u32']; omega
      obtain ⟨z, hzz⟩ : ∃ z, wordB y0 y1 y2 y3 = z := ⟨_, rfl⟩
      rw [hzz] at HV
      have x1 : IntKind.u32.wrap ((y0 : Int) + (y1 : Int) * 256) = (y0 : Int) + (y1 : Int) * 256 := by rw [IntKind.wrap_u32']; omega
      have x2 : IntKind.u32.wrap ((y0 : Int) + (y1 : Int) * 256 + (y2 : Int) * 65536) = (y0 : Int) + (y1 : Int) * 256 + (y2 : Int) * 65536 := by rw [IntKind.wrap_u32']; omega
      have x3 : IntKind.u32.wrap ((y0 : Int) + (y1 : Int) * 256 + (y2 : Int) * 65536 + (y3 : Int) * 16777216) = (z : Int) := by rw [IntKind.wrap_u32', ← hzz]; unfold wordB; omega
      have HST : Hid (((wordsB bs.tail).take j).map u32v ++ [.int .u32 (z : Int)] = ((wordsB bs.tail).take (j + 1)).map u32v) := Lib.hid (by
        have hjl : j < (wordsB bs.tail).length := by rw [HWL.out]; exact hp
        rw [List.take_succ_eq_append_getElem hjl, List.map_append]
        have e : (wordsB bs.tail)[j] = z := by
          have := HV.out
          rw [List.getD_eq_getElem?_getD, List.getElem?_eq_getElem hjl] at this
          exact this
        rw [e]
        rfl)
      have hgs : g < w.heap.size := hlt
      have hsz : w.heap.size < wr.heap.size := KA.out.lt
      have hc30 : Four (wr.alloc (.cells #[.int .u32 (z : Int)] 43)).drew g p y0 y1 y2 y3 := HC.out.kept (show (wr.alloc (.cells #[.int .u32 (z : Int)] 43)).heap[g]? = _ from Below.heap_alloc wr _ g hg3)
      clear hy0 hy1 hy2 hy3 hyb hpp hnk hzz
      go_wp2_with fail
      go_region_held3 (fun w' => w'.cell? ⟨g, p, none⟩ = some (.int .u8 (y0 : Int)) ∧ w'.cell? ⟨g, p + 1, none⟩ = some (.int .u8 (y1 : Int)) ∧ w'.cell? ⟨g, p + 2, none⟩ = some (.int .u8 (y2 : Int)) ∧ w'.cell? ⟨g, p + 3, none⟩ = some (.int .u8 (y3 : Int))) (first | exact HC.out | exact ⟨hc30.1, hc30.2.1, hc30.2.2.1, hc30.2.2.2⟩ | exact ⟨hc5.1, hc5.2.1, hc5.2.2.1, hc5.2.2.2⟩) ((refine wp_append_own _ (.tmp 36) (.tmp 66) 24 rfl (w.heap.size + 1) 43 i0 (.int .u32 0) 1 4 Try.underlying24 hi hz0 hz1 hz2 rfl (by decide) _ j _ rfl (HO.out.alloc _) ⟨wr.heap.size, 0, none⟩ 1 1 [.int .u32 (z : Int)] rfl rfl (cell_one_new _ _ _) (by simp [Value.oneCell']) (by unfold maxLen; omega) (by omega) (by simp; omega) ?_; intro v' w5 hown' hgr hif; clear hif; have hc5 : Four w5 g p y0 y1 y2 y3 := (HC.out.kept (Below.heap_alloc wr _ g hg3)).kept (hgr.block g (by simp; omega) (fun e => by have := own_lt HO.out g e.symm; omega))))
      clear hc5 hc30 u0 u1 u2 u3 v1 v2 v3 x1 x2 x3 e1 e2 e3 t1 t2 t3
      have ho6 : w5.ownsRow (w.heap.size + 1) 43 1 v' (j + 1) (((wordsB bs.tail).take (j + 1)).map u32v) := by rw [← HST.out]; exact hown'
      have HO6 := Lib.hid ho6
      have hb6 := ((HB.out.drew.alloc (B := w.heap.size) (by show w.heap.size ≤ wr.heap.size; omega) (.cells #[.int .u32 (z : Int)] 43)).grown hgr (by simp; omega) (fun q hq => by have := own_lt HO.out q hq; omega))
      have HB6 := Lib.hid hb6
      have ka6 := (Blk.drew (KA.out.alloc (.cells #[.int .u32 (z : Int)] 43))).grown hgr (fun e => by have := own_lt HO.out _ e.symm; omega)
      have KA6 := Lib.hid ka6
      clear ho6 hown' hgr hb6 ka6
      have e5 : IntKind.i64.wrap ((p : Int) + 4) = (p : Int) + 4 := by rw [IntKind.wrap_i64]; omega
      have HPN : Hid ((p : Int) + 4 = ((1 + 4 * (j + 1) : Nat) : Int)) := Lib.hid (by have := HPP.out; omega)
      go_wp2_with fail
      go_roundw
      case rel => exact ⟨j + 1, by rw [← HPN.out], by omega, HO6, HB6, KA6⟩
      case measure => simp [intOf]; omega
    · obtain rfl : j = k + 1 := by omega
      have ho := HO.out
      rw [List.take_of_length_le (by rw [HWL.out]; exact Nat.le_refl _)] at ho
      obtain ⟨g2, cap2, cur, rfl, hrow⟩ := own_row ho (Nat.succ_pos k)
      have hcp := hrow.le
      have hrd := rd_own'' ho (by omega)
      have hcs := cells_of_rd hrd
      obtain ⟨x, hx⟩ : ∃ x, (wordsB bs.tail).getD k 0 = x := ⟨_, rfl⟩
      have hkl : k < (wordsB bs.tail).length := by rw [HWL.out]; exact Nat.lt_succ_self k
      have hxk : (wordsB bs.tail)[k] = x := by
        rw [← hx, List.getD_eq_getElem?_getD, List.getElem?_eq_getElem hkl]
        rfl
      have hck : wr.cell? ⟨g2, k, none⟩ = some (.int .u32 (x : Int)) := by
        have := hcs k (u32v x) (by rw [List.getElem?_map, List.getElem?_eq_getElem hkl, hxk]; rfl)
        rw [addr_lit, Nat.zero_add] at this
        exact this
      have hrow2 : RowIs wr (w.heap.size + 1) 43 g2 k cap2 cur (((wordsB bs.tail).take k).map u32v) :=
        ⟨hrow.base, hrow.row, by omega, hrow.max, hrow.len, by rw [List.map_take, ← hrow.take, List.take_take]; congr 1; omega⟩
      have htk : ((wordsB bs.tail).take k).length = k := by rw [List.length_take, HWL.out]; omega
      have ho2 := hrow2.own (by rw [List.length_map]; exact htk)
      have hrd2 := rd_own'' ho2 (by omega)
      have HSUM := Lib.hid (spec_sum (.slice (some ⟨g2, 0, none⟩) k cap2) ((wordsB bs.tail).take k) (fun c hc => HSM.out c (List.mem_of_mem_take hc)) wr.drew hrd2)
      obtain ⟨s, hs⟩ : ∃ s, sumL ((wordsB bs.tail).take k) = s := ⟨_, rfl⟩
      rw [hs] at HSUM
      have HOK : Hid (readOk bs = decide (s = x)) := Lib.hid (by
        unfold readOk
        rw [HBB.out, HK.out, hs, hx]
        have h1 := HBY.out.len
        have h2 := HNK.out
        have h3 := HK.out
        exact decide_eq_decide.2 ⟨fun h => h.2.2.2, fun h => ⟨by omega, h12, by omega, h⟩⟩)
      have HRL : Hid (readOk bs = true → readL bs = (wordsB bs.tail).take k) := Lib.hid fun h => by
        unfold readL
        rw [if_pos h, HBB.out, HK.out]
      have hcapk : ¬ cap2 = k := by omega
      have HO2 := Lib.hid ho2
      have HTK := Lib.hid htk
      have k0 : (0 : Int) ≤ (k : Int) := by omega
      have k1 : (k : Int) ≤ (cap2 : Int) := by omega
      have k2 : (k : Int) < (k : Int) + 1 := by omega
      have hne : w.heap.size ≠ g2 := by have := hrow.base; omega
      have i2 : ¬ (p : Int) < (n : Int) := by omega
      have c7 : wr.cell? ⟨w.heap.size, 0, none⟩ = some (.slice none 0 0) := KA.out.cell 0
      have f7 := KA.out.frozen 0
      clear ho hrow hrd hcs hx hkl hxk hrow2 htk ho2 hrd2 hs hpp hnk HO
      go_wp2_with fail
      go_region_held3 (fun w' => w'.cell? ⟨g2, k, none⟩ = some (.int .u32 (x : Int))) (first | exact hck) (first | (go_at_call 30; refine HSUM.out.mono ?_; rintro e w5 ⟨rfl, rfl⟩))
      by_cases hsx : s = x
      · have hok : readOk bs = true := by rw [HOK.out]; exact decide_eq_true hsx
        have hb : ((s : Int) != (x : Int)) = false := by rw [hsx]; simp
        have HK2 := Lib.hid hok
        clear hsx hok hck
        go_wp2_with fail
        have e0 : _ = some _ := (st_blk KA.out (.slice (some ⟨g2, 0, none⟩) k cap2)).cell 0
        exact bodyPost_ret (v := pairSV true (.slice (some ⟨g2, 0, none⟩) k cap2)) (by simp [results, Try.results55, e0, go_sem]) rfl
          (by rw [HK2.out, HRL.out HK2.out]; exact ⟨_, rfl, by rw [HTK.out]; exact (own_put (World.ownsRow.drew HO2.out) (Nat.lt_succ_self _) _).mono (Nat.le_succ _), HB.out.drew.setCell (Nat.le_refl _) _⟩)
      · have hok : readOk bs = false := by rw [HOK.out]; exact decide_eq_false hsx
        have hb : ((s : Int) != (x : Int)) = true := by simp; omega
        have HK2 := Lib.hid hok
        clear hsx hok hck
        go_wp2_with fail
        have e0 : _ = some _ := (st_blk KA.out (.slice none 0 0)).cell 0
        exact bodyPost_ret (v := pairSV false (.slice none 0 0)) (by simp [results, Try.results55, e0, go_sem]) rfl (by rw [HK2.out, readL_no HK2.out]; exact newr_none (HB.out.drew.setCell (Nat.le_refl _) _))

theorem spec_readimage (w : World) (base : Nat) (v : Value) (bs : List Nat) (hs : ∀ y ∈ bs, y < 256) (hl : bs.length ≤ 4194304) (hown : w.ownsRow base 5 1 v bs.length (bs.map b8v)) :
    Calls Try.prog 55 #[v] w (NewR (pairSV (readOk bs)) w (readL bs)) := by
  by_cases h5 : bs.length < 5
  · have e : readOk bs = false := decide_eq_false fun h => by have := h.1; omega
    rw [e, readL_no e]
    obtain ⟨A, c, rfl⟩ := own_form hown
    exact spec_readimage_short A _ c h5 w
  · obtain ⟨g, cap, cur, rfl, hrow⟩ := own_row hown (by omega)
    have hrb := rd_own8 hown (by omega)
    have hat := bytes_at hrb (by omega) hs
    by_cases hz : 12 < bs.headD 0 ∨ bs.length ≠ 5 + 256 * bs.headD 0
    · have e : readOk bs = false := decide_eq_false fun h => by
        rcases hz with h1 | h1
        · have := h.2.1; omega
        · exact h1 h.2.2.1
      rw [e, readL_no e]
      exact spec_readimage_no g _ cap bs (by omega) hl w hat hz
    · exact spec_readimage_main g _ cap bs w hat (by omega) (by omega)
end Go.Proofs.Ytcddkcejjajlhaa
