/-
  New stores; a block's own cells; copies.
-/
import Derived.Test.YtcddkcejjajlhaaHasBlk
namespace Go.Proofs.Ytcddkcejjajlhaa
open Go.RowKit Go

def newL (n : Int) : List Nat := if 0 ≤ n ∧ n ≤ 12 then List.replicate (64 * n.toNat) 0 else []
theorem impl_blockin (a : Addr) (n c k : Nat) (hn : n ≤ c) (hn2 : n ≤ 4611686018427387904) (hk : 64 * k + 64 ≤ n) (w : World) :
    Calls Try.prog 68 #[stA (.slice (some a) n c), .int .i64 (k : Int)] w fun e w' => e = .returned (.slice (some (a.add (64 * k))) 64 64) ∧ Below w.heap.size w w' := by
  go_enter Try.func68, Try.ntmps68
  go_wp2
  go_ret
  refine ⟨?_, below_alloc _ _⟩
  show Ending.returned (.slice (some (a.add (k * 64))) (k * 64 + 64 - k * 64) (k * 64 + 64 - k * 64)) = _
  rw [show k * 64 + 64 - k * 64 = 64 by omega, Nat.mul_comm]
/-- The zero store, stored into a result's cell. -/
theorem newr_none {r : Value → Value} {w w1 : World} (hb : Below w.heap.size w w1) : NewR r w [] (.returned (r (.slice none 0 0))) w1 := ⟨_, rfl, World.ownsRow_nil _ _ _ _, hb⟩
theorem zeros_u32 (n : Nat) : (madeCells (Value.int .u32 0).cells (n * 1)).toList = (List.replicate n 0).map u32v := by
  rw [Nat.mul_one]
  refine (toList_madeCells_one _ _).trans ?_
  simp [u32v]
set_option maxHeartbeats 1000000 in
theorem impl_newstore (n : Int) (w : World) : Calls Try.prog 36 #[.int .i64 n] w (NewR stA w (newL n)) := by
  obtain ⟨i0, hi, hz0, hz1, hz2⟩ := info_parts infoU32
  by_cases h0 : n < 0
  · have e : newL n = [] := by unfold newL; rw [if_neg (by omega)]
    rw [e]
    clear e
    go_enter Try.func36, Try.ntmps36
    go_wp2
    exact bodyPost_ret (v := stA (.slice none 0 0)) (by simp [results, Try.results36, go_sem]) rfl (newr_none (below_alloc _ _))
  · by_cases h1 : 12 < n
    · have e : newL n = [] := by unfold newL; rw [if_neg (by omega)]
      rw [e]
      clear e
      go_enter Try.func36, Try.ntmps36
      go_wp2
      exact bodyPost_ret (v := stA (.slice none 0 0)) (by simp [results, Try.results36, go_sem]) rfl (newr_none (below_alloc _ _))
    · obtain ⟨k, hk⟩ : ∃ k : Nat, n = k := ⟨n.toNat, by omega⟩
      have hk12 : k ≤ 12 := by omega
      have e : newL n = List.replicate (64 * k) 0 := by unfold newL; rw [if_pos (by omega), hk]; simp
      have hm : n * 64 = ((64 * k : Nat) : Int) := by omega
      rw [e]
      have HM := Lib.hid hm
      clear e hk hm
      go_enter Try.func36, Try.ntmps36
      go_wp2_with (at_make; refine wpList_make_full _ rfl _ _ _ rfl (w.heap.size + 1) 43 i0 (.int .u32 0) 1 Try.underlying24 hi hz0 hz1 .i64 .i64 _ _ (64 * k) rfl rfl HM.out HM.out (by rw [hz2]; omega) (by unfold maxLen; omega) (by simp) ?_; intro w1 hown hgr; have k1 := (Blk.new w 26 #[.slice none 0 0]).grown hgr (by simp); have c1 : _ = some _ := k1.cell 0; have f1 := k1.frozen 0; rw [zeros_u32] at hown; have HO := Lib.hid hown; have HG := Lib.hid hgr; have K1 := Lib.hid k1; clear hown hgr k1)
      have e0 : _ = some _ := (st_blk K1.out (.slice (some ⟨w.heap.size + 1, 0, none⟩) (64 * k) (64 * k))).cell 0
      have ho := HO.out
      have hs : (w.alloc (.cells #[.slice none 0 0] 26)).heap.size = w.heap.size + 1 := by simp
      rw [hs] at ho
      exact bodyPost_ret (v := stA (.slice (some ⟨w.heap.size + 1, 0, none⟩) (64 * k) (64 * k))) (by simp [results, Try.results36, e0, go_sem]) rfl
        ⟨_, rfl, by rw [List.length_replicate]; exact (own_put ho (by simp) _).mono (by omega), ((below_alloc _ _).grown HG.out (by simp) (fun k hk => by cases hk)).setCell (Nat.le_refl _) _⟩
set_option maxHeartbeats 1000000 in
theorem spec_newstore (n : Int) (w : World) : Calls Try.prog 35 #[.int .i64 n] w (NewR stA w (newL n)) := by
  obtain ⟨i0, hi, hz0, hz1, hz2⟩ := info_parts infoU32
  by_cases h0 : n < 0
  · have e : newL n = [] := by unfold newL; rw [if_neg (by omega)]
    have HN := Lib.hid (fun W => in_any n 0 12 W)
    rw [inB_false (by omega)] at HN
    rw [e]
    clear e
    go_enter Try.func35, Try.ntmps35
    go_wp2_with fail
    refine (HN.out _).mono ?_
    rintro e w1 ⟨rfl, rfl⟩
    go_wp2_with fail
    exact bodyPost_ret (v := stA (.slice none 0 0)) (by simp [results, Try.results35, go_sem]) rfl (newr_none (below_alloc _ _))
  · by_cases h1 : 12 < n
    · have e : newL n = [] := by unfold newL; rw [if_neg (by omega)]
      have HN := Lib.hid (fun W => in_any n 0 12 W)
      rw [inB_false (by omega)] at HN
      rw [e]
      clear e
      go_enter Try.func35, Try.ntmps35
      go_wp2_with fail
      refine (HN.out _).mono ?_
      rintro e w1 ⟨rfl, rfl⟩
      go_wp2_with fail
      exact bodyPost_ret (v := stA (.slice none 0 0)) (by simp [results, Try.results35, go_sem]) rfl (newr_none (below_alloc _ _))
    · obtain ⟨k, hk⟩ : ∃ k : Nat, n = k := ⟨n.toNat, by omega⟩
      have hk12 : k ≤ 12 := by omega
      have e : newL n = List.replicate (64 * k) 0 := by unfold newL; rw [if_pos (by omega), hk]; simp
      have hm : n * 64 = ((64 * k : Nat) : Int) := by omega
      have HN := Lib.hid (fun W => in_any n 0 12 W)
      rw [inB_true (by omega) (by omega)] at HN
      rw [e]
      have HM := Lib.hid hm
      clear e hk hm
      go_enter Try.func35, Try.ntmps35
      go_wp2_with fail
      refine (HN.out _).mono ?_
      rintro e w1 ⟨rfl, rfl⟩
      go_wp2_with (at_make; refine wpList_make_full _ rfl _ _ _ rfl (w.heap.size + 1) 43 i0 (.int .u32 0) 1 Try.underlying24 hi hz0 hz1 .i64 .i64 _ _ (64 * k) rfl rfl HM.out HM.out (by rw [hz2]; omega) (by unfold maxLen; omega) (by simp) ?_; intro w1 hown hgr; have k1 := (Blk.new w 26 #[.slice none 0 0]).grown hgr (by simp); have c1 : _ = some _ := k1.cell 0; have f1 := k1.frozen 0; rw [zeros_u32] at hown; have HO := Lib.hid hown; have HG := Lib.hid hgr; have K1 := Lib.hid k1; clear hown hgr k1)
      have e0 : _ = some _ := (st_blk K1.out (.slice (some ⟨w.heap.size + 1, 0, none⟩) (64 * k) (64 * k))).cell 0
      have ho := HO.out
      have hs : (w.alloc (.cells #[.slice none 0 0] 26)).heap.size = w.heap.size + 1 := by simp
      rw [hs] at ho
      exact bodyPost_ret (v := stA (.slice (some ⟨w.heap.size + 1, 0, none⟩) (64 * k) (64 * k))) (by simp [results, Try.results35, e0, go_sem]) rfl
        ⟨_, rfl, by rw [List.length_replicate]; exact (own_put ho (by simp) _).mono (by omega), ((below_alloc _ _).grown HG.out (by simp) (fun k hk => by cases hk)).setCell (Nat.le_refl _) _⟩
end Go.Proofs.Ytcddkcejjajlhaa
