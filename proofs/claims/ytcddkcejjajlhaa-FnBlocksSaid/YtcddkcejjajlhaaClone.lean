/-
  Copies of lists; a block of a store.
-/
import Derived.Test.YtcddkcejjajlhaaBlockIn
import Derived.Lib.SliceRun
namespace Go.Proofs.Ytcddkcejjajlhaa
open Go.RowKit Go

theorem cells_of_rd {w : World} {a : Addr} {n c : Nat} {xs : List Nat} (h : RdN w (.slice (some a) n c) xs) : ∀ j u, (xs.map u32v)[j]? = some u → w.cell? (a.add j) = some u := by
  obtain ⟨A, cap, e, hl, hc⟩ := h
  injection e with e1 e2 e3
  intro j u hu
  rw [List.getElem?_map, Option.map_eq_some_iff] at hu
  obtain ⟨x, hx, rfl⟩ := hu
  obtain ⟨hj, hx⟩ := List.getElem?_eq_some_iff.1 hx
  obtain ⟨b, hb, -, hcell⟩ := hc j hj
  rw [← e1] at hb
  injection hb with hb
  subst hb
  rw [hcell, hx]
theorem one_u32 (xs : List Nat) : ∀ u ∈ xs.map u32v, u.oneCell' = true := by
  intro u hu
  obtain ⟨_, _, rfl⟩ := List.mem_map.1 hu
  rfl
theorem rd_none {w : World} {n c : Nat} {xs : List Nat} (h : RdN w (.slice none n c) xs) : xs = [] := by
  obtain ⟨B, d, e, hl, hc⟩ := h
  injection e with e1
  rcases Nat.eq_zero_or_pos xs.length with h0 | h0
  · exact List.eq_nil_of_length_eq_zero h0
  · obtain ⟨a, ha, -⟩ := hc 0 h0
    rw [← e1] at ha
    cases ha
set_option maxHeartbeats 1000000 in
theorem clone_any32 (v : Value) (xs : List Nat) (hx : xs.length ≤ 4194304) (W : World) (hr : RdN W v xs) : Calls Try.prog 67 #[v] W (NewN W xs) := by
  obtain ⟨i0, hi, hz0, hz1, hz2⟩ := info_parts infoU32
  obtain ⟨A, cap, rfl⟩ := hr.form
  cases A with
  | none =>
    have hxs := rd_none hr
    clear hx
    subst hxs
    clear hr
    have he := fun w => Lib.run_eql_slice_nil (P := Try.prog) w 24 43 none 0 cap 0 0 Try.underlying24
    go_enter Try.func67, Try.ntmps67
    go_wp2_with fail
    go_ret
    exact ⟨_, rfl, World.ownsRow_nil _ _ _ _, by go_grown⟩
  | some a =>
    have hc := cells_of_rd (hr.below (below_alloc W (.cells #[] 43)))
    have HC := Lib.hid hc
    clear hr hc
    have he := fun w => Lib.run_eql_slice_nil (P := Try.prog) w 24 43 (some a) xs.length cap 0 0 Try.underlying24
    go_enter Try.func67, Try.ntmps67
    go_wp2_with (at_builtin; refine wpList_append_own _ rfl _ _ 24 rfl W.heap.size 43 i0 (.int .u32 0) 1 4 Try.underlying24 hi hz0 hz1 hz2 rfl (by decide) _ 0 [] rfl (own_empty W 43) a xs.length cap (xs.map u32v) rfl (by simp) HC.out (one_u32 xs) (by unfold maxLen; omega) (by omega) (by simp) ?_; intro v' w1 hown hgr _)
    go_ret
    refine ⟨v', rfl, ?_, ?_⟩
    · simpa using hown
    · exact (below_alloc W _).grown hgr (by simp) (fun k hk => own_lt (own_empty W 43) k hk)
end Go.Proofs.Ytcddkcejjajlhaa
