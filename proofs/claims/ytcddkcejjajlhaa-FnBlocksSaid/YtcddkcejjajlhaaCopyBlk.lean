/-
  A block is copied to another one.
-/
import Derived.Test.YtcddkcejjajlhaaPutSpec
import Derived.Deep.RegionHeld3
namespace Go.Proofs.Ytcddkcejjajlhaa
open Go.RowKit Go

attribute [local go_sem ↓] Go.wp_at_zero Go.wp_at_succ
def copyOk (n : Nat) (f t : Int) : Bool := hasB n f && putOk n t 64
def copyC (l : List Nat) (f t : Int) : List Nat := if hasB l.length f = true then putC l t (blockL l f.toNat) else []

theorem rd_own' {w : World} {base : Nat} {e : TypeId} {v : Value} {n : Nat} {ls : List Nat} (h : w.ownsRow base e 1 v n (ls.map u32v)) (hl : n ≤ 4611686018427387904) : RdN w v ls := by
  have hn : ls.length = n := by have := h.1; simpa using this
  subst hn
  exact RdN.of_own h hl
set_option maxHeartbeats 1000000 in
theorem impl_copyblock_no (v : Value) (xs : List Nat) (f t : Int) (w : World) (hr : RdN w v xs) (hb : hasB xs.length f = false) : Calls Try.prog 27 #[stA v, .int .i64 f, .int .i64 t] w (NewR (pairSV (copyOk xs.length f t)) w (copyC xs f t)) := by
  have e : copyOk xs.length f t = false := by unfold copyOk; rw [hb, Bool.false_and]
  have e2 : copyC xs f t = [] := if_neg (by rw [hb]; decide)
  rw [e, e2]
  obtain ⟨A, c, rfl⟩ := hr.form
  have HH := Lib.hid (fun W => impl_has A xs.length c hr.small f W)
  rw [hb] at HH
  clear hr hb e e2
  go_enter Try.func27, Try.ntmps27
  go_wp2_with fail
  refine (HH.out _).mono ?_
  rintro e w1 ⟨rfl, hb1⟩
  obtain ⟨k1, k2, hB, hz⟩ := boxes2 hb1
  have c2 : _ = some _ := k2.cell 0
  have f2 := k2.frozen 0
  have HB := Lib.hid hB
  have K2 := Lib.hid k2
  clear hb1 HH k1 k2 hB
  go_wp2_with fail
  have e0 : _ = some _ := (st_blk K2.out (.slice none 0 0)).cell 0
  exact bodyPost_ret (v := pairSV false (.slice none 0 0)) (by simp [results, Try.results27, e0, go_sem]) rfl (newr_none (HB.out.setCell (by simp) _))

set_option maxHeartbeats 2000000 in
theorem impl_copyblock_yes (v : Value) (xs : List Nat) (k : Nat) (t : Int) (w : World) (hr : RdN w v xs) (hcp : CapOk v) (hb : hasB xs.length (k : Int) = true) (h3 : 64 * k + 64 ≤ xs.length) : Calls Try.prog 27 #[stA v, .int .i64 (k : Int), .int .i64 t] w (NewR (pairSV (putOk xs.length t 64)) w (putC xs t (blockL xs k))) := by
  obtain ⟨a, c, rfl⟩ := rd_some hr (by omega)
  have hc : xs.length ≤ c := hcp _ _ _ rfl
  have HH := Lib.hid (fun W => impl_has (some a) xs.length c hr.small (k : Int) W)
  rw [hb] at HH
  have HI := Lib.hid (fun W => impl_blockin a xs.length c k hc hr.small h3 W)
  have HP := Lib.hid (fun W (hbl : Below w.heap.size w W) => impl_putblock (.slice (some a) xs.length c) _ xs (blockL xs k) t W (hr.below hbl) ((rd_block hr h3 64).below hbl))
  have hlen := blockL_len h3
  rw [hlen] at HP
  obtain ⟨L, hL⟩ : ∃ L, putC xs t (blockL xs k) = L := ⟨_, rfl⟩
  obtain ⟨q, hq⟩ : ∃ q, putOk xs.length t 64 = q := ⟨_, rfl⟩
  rw [hL, hq] at HP ⊢
  clear hr hb hcp hc hlen hL hq
  go_enter Try.func27, Try.ntmps27
  go_wp2_with fail
  refine (HH.out _).mono ?_
  rintro e w1 ⟨rfl, hb1⟩
  obtain ⟨k1, k2, hB, hz⟩ := boxes2 hb1
  have K1 := Lib.hid k1
  have HB := Lib.hid hB
  have K2 := Lib.hid k2
  have c1 : w1.cell? ⟨w.heap.size, 0, none⟩ = some (.slice (some a) xs.length c) := k1.cell 0
  clear hb1 HH k1 k2 hB
  go_wp2_with fail
  have hne : w.heap.size ≠ w.heap.size + 1 := by omega
  go_region_held3 (fun w' => w'.cell? ⟨w.heap.size, 0, none⟩ = some (.slice (some a) xs.length c)) (first | exact K1.out.cell 0 | go_keep | exact (Blk.below K1.out.drew hb2 K1.out.lt).cell 0 | exact hc3 | exact hc4) (first | (go_at_call 68; refine (HI.out _).mono ?_; rintro e w2 ⟨rfl, hb2⟩) | (go_at_call 23; refine (HP.out _ (HB.out.drew.trans (hb2.mono HB.out.size))).mono ?_; rintro e w3 ⟨u, rfl, hown, hb3⟩; obtain ⟨A3, c3, rfl⟩ := own_form hown; have hb23 := Lib.hid (hb2.trans (hb3.mono hb2.size)); have k1' := Blk.below K1.out.drew hb23.out K1.out.lt; have hc3 : w3.cell? ⟨w.heap.size, 0, none⟩ = some (.slice (some a) xs.length c) := k1'.cell 0; have hc4 : (w3.setCell ⟨w.heap.size + 1, 0, none⟩ (.slice A3 L.length c3)).cell? ⟨w.heap.size, 0, none⟩ = some (.slice (some a) xs.length c) := (k1'.far (p := ⟨w.heap.size + 1, 0, none⟩) hne _).cell 0; have k2' := Blk.below K2.out.drew hb23.out K2.out.lt; have c23 : w3.cell? ⟨w.heap.size + 1, 0, none⟩ = some (.slice none 0 0) := k2'.cell 0; have f23 := k2'.frozen 0; have K23 := Lib.hid k2'; have HO := Lib.hid hown; have HB2 := Lib.hid hb2; have HB3 := Lib.hid hb23.out; clear k1' k2' hown))
  have hsz : w1.heap.size ≤ w2.heap.size := HB2.out.size
  clear hc3 hc4 c1
  go_wp2_with fail
  have e0 : _ = some _ := (st_blk K23.out (.slice A3 L.length c3)).cell 0
  exact bodyPost_ret (v := pairSV q (.slice A3 L.length c3)) (by simp [results, Try.results27, e0, go_sem]) rfl
    ⟨_, rfl, (own_put HO.out (by show w.heap.size + 1 < w2.heap.size; omega) _).mono (by omega), (HB.out.drew.trans (HB3.out.mono HB.out.size)).setCell (by simp) _⟩
theorem impl_copyblock (v : Value) (xs : List Nat) (f t : Int) (w : World) (hr : RdN w v xs) (hcp : CapOk v) : Calls Try.prog 27 #[stA v, .int .i64 f, .int .i64 t] w (NewR (pairSV (copyOk xs.length f t)) w (copyC xs f t)) := by
  by_cases hb : hasB xs.length f = true
  · have e : copyOk xs.length f t = putOk xs.length t 64 := by unfold copyOk; rw [hb, Bool.true_and]
    have e2 : copyC xs f t = putC xs t (blockL xs f.toNat) := if_pos hb
    rw [e, e2]
    obtain ⟨k, rfl, h1, h2, h3⟩ := hasB_some hb
    exact impl_copyblock_yes v xs k t w hr hcp hb h3
  · exact impl_copyblock_no v xs f t w hr (by simpa using hb)

set_option maxHeartbeats 2000000 in
theorem spec_copyblock (v : Value) (xs : List Nat) (f t : Int) (w : World) (hr : RdN w v xs) (hcp : CapOk v) : Calls Try.prog 44 #[stA v, .int .i64 f, .int .i64 t] w (NewR (pairSV (copyOk xs.length f t)) w (copyC xs f t)) := by
  obtain ⟨A, c, rfl⟩ := hr.form
  have HO := Lib.hid (fun W (hbl : Below w.heap.size w W) => spec_blockof (.slice A xs.length c) xs f W (hr.below hbl) hcp)
  by_cases hb : hasB xs.length f = true
  · have e : copyOk xs.length f t = putOk xs.length t 64 := by unfold copyOk; rw [hb, Bool.true_and]
    have e2 : copyC xs f t = putC xs t (blockL xs f.toNat) := if_pos hb
    have e3 : blockC xs f = blockL xs f.toNat := if_pos hb
    rw [e, e2]
    rw [hb, e3] at HO
    obtain ⟨k, rfl, h1, h2, h3⟩ := hasB_some hb
    have hlen := blockL_len h3
    have HP := Lib.hid (fun u W (hbl : Below w.heap.size w W) (hu : RdN W u (blockL xs k)) => spec_putblock (.slice A xs.length c) u xs (blockL xs k) t W (hr.below hbl) hu)
    rw [hlen] at HP
    have hk : ((k : Int)).toNat = k := rfl
    rw [hk] at HO ⊢
    obtain ⟨M, hM⟩ : ∃ M, blockL xs k = M := ⟨_, rfl⟩
    obtain ⟨L, hL⟩ : ∃ L, putC xs t M = L := ⟨_, rfl⟩
    obtain ⟨q, hq⟩ : ∃ q, putOk xs.length t 64 = q := ⟨_, rfl⟩
    rw [hM] at hlen HO HP ⊢
    rw [hL, hq] at HP ⊢
    have HLEN := Lib.hid hlen
    clear hr hb hcp hL hq hM e e2 e3 hk h1 h2 h3 hlen
    go_enter Try.func44, Try.ntmps44
    go_wp2_with fail
    refine (HO.out _ (below_alloc2 w _ _)).mono ?_
    rintro e w1 ⟨u, rfl, hown, hb1⟩
    obtain ⟨k1, k2, hB, hz⟩ := boxes2 hb1
    obtain ⟨A1, c1, rfl⟩ := own_form hown
    have cc1 : w1.cell? ⟨w.heap.size, 0, none⟩ = some (.slice A xs.length c) := k1.cell 0
    have R1 := Lib.hid (rd_own' hown (by have := HLEN.out; omega))
    have HB := Lib.hid hB
    have K2 := Lib.hid k2
    clear hb1 HO k1 k2 hB hown
    go_wp2_with fail
    refine (HP.out _ _ HB.out R1.out).mono ?_
    rintro e w2 ⟨u2, rfl, hown, hb2⟩
    obtain ⟨A2, c2, rfl⟩ := own_form hown
    have k2 := K2.out.below hb2 K2.out.lt
    have cc2 : w2.cell? ⟨w.heap.size + 1, 0, none⟩ = some (.slice none 0 0) := k2.cell 0
    have f2 := k2.frozen 0
    have K3 := Lib.hid k2
    have HO2 := Lib.hid hown
    have HB2 := Lib.hid (HB.out.trans (hb2.mono HB.out.size))
    clear hb2 hown k2 HP K2
    go_wp2_with fail
    have e0 : _ = some _ := (st_blk K3.out (.slice A2 L.length c2)).cell 0
    exact bodyPost_ret (v := pairSV q (.slice A2 L.length c2)) (by simp [results, Try.results44, e0, go_sem]) rfl
      ⟨_, rfl, (own_put HO2.out (by show w.heap.size + 1 < w1.heap.size; omega) _).mono (by omega), HB2.out.setCell (by simp) _⟩
  · have hb : hasB xs.length f = false := by simpa using hb
    have e : copyOk xs.length f t = false := by unfold copyOk; rw [hb, Bool.false_and]
    have e2 : copyC xs f t = [] := if_neg (by rw [hb]; decide)
    have e3 : blockC xs f = [] := if_neg (by rw [hb]; decide)
    rw [e, e2]
    rw [hb, e3] at HO
    clear hr hb hcp e e2 e3
    go_enter Try.func44, Try.ntmps44
    go_wp2_with fail
    refine (HO.out _ (below_alloc2 w _ _)).mono ?_
    rintro e w1 ⟨u, rfl, hown, hb1⟩
    obtain ⟨k1, k2, hB, hz⟩ := boxes2 hb1
    obtain ⟨A1, c1, rfl⟩ := own_form hown
    have c2 : w1.cell? ⟨w.heap.size + 1, 0, none⟩ = some (.slice none 0 0) := k2.cell 0
    have f2 := k2.frozen 0
    have HB := Lib.hid hB
    have K2 := Lib.hid k2
    clear hb1 HO k1 k2 hB hown
    go_wp2_with fail
    have e0 : _ = some _ := (st_blk K2.out (.slice none 0 0)).cell 0
    exact bodyPost_ret (v := pairSV false (.slice none 0 0)) (by simp [results, Try.results44, e0, go_sem]) rfl (newr_none (HB.out.setCell (by simp) _))
end Go.Proofs.Ytcddkcejjajlhaa
