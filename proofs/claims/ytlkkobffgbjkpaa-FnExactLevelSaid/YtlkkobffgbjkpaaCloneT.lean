/-
  Lists as sources of appends; slices.Clone at each kind of list.
-/
import Derived.Test.YtlkkobffgbjkpaaAppend
import Derived.Test.YtlkkobffgbjkpaaStPut
import Derived.Test.YtlkkobffgbjkpaaToU
import Derived.Lib.SliceRun
namespace Go.Proofs.Ytlkkobffgbjkpaa
open Go.RowKit Go

theorem own_emptyG (w : World) (e : TypeId) (size : Nat) : (w.alloc (.cells #[] e)).ownsRow w.heap.size e size (.slice (some ⟨w.heap.size, 0, none⟩) 0 0) 0 [] :=
  ⟨by simp, .inr ⟨w.heap.size, 0, #[], rfl, Nat.le_refl _, heap_alloc_new w _, Nat.le_refl _, Nat.zero_le _, by simp, by simp⟩⟩
theorem srcI {w : World} {v : Value} {xs : List Int} (h : RdI w v xs) : SrcAt w 1 v xs.length (xs.map iv) := by
  obtain ⟨A, cap, rfl, hl, hc⟩ := h
  refine ⟨A, cap, rfl, by simp, fun e => ?_, fun a ha j x hx => ?_⟩
  · rcases Nat.eq_zero_or_pos xs.length with h0 | h0
    · exact h0
    · obtain ⟨a, ha, -⟩ := hc 0 h0
      rw [e] at ha
      cases ha
  · rw [List.getElem?_map, Option.map_eq_some_iff] at hx
    obtain ⟨y, hy, rfl⟩ := hx
    obtain ⟨hj, hy⟩ := List.getElem?_eq_some_iff.1 hy
    obtain ⟨b, hb, -, hcell⟩ := hc j hj
    rw [ha] at hb
    injection hb with hb
    subst hb
    rw [hcell, hy]
theorem oneI (xs : List Int) : ∀ u ∈ xs.map iv, u.oneCell' = true := by
  intro u hu
  obtain ⟨_, _, rfl⟩ := List.mem_map.1 hu
  rfl
theorem srcL {w : World} {v : Value} {xs : List Int} (h : RdL w v xs) : SrcAt w 1 v xs.length (xs.map lv) := by
  obtain ⟨A, cap, rfl, hl, hc⟩ := h
  refine ⟨A, cap, rfl, by simp, fun e => ?_, fun a ha j x hx => ?_⟩
  · rcases Nat.eq_zero_or_pos xs.length with h0 | h0
    · exact h0
    · obtain ⟨a, ha, -⟩ := hc 0 h0
      rw [e] at ha
      cases ha
  · rw [List.getElem?_map, Option.map_eq_some_iff] at hx
    obtain ⟨y, hy, rfl⟩ := hx
    obtain ⟨hj, hy⟩ := List.getElem?_eq_some_iff.1 hy
    obtain ⟨b, hb, -, hcell⟩ := hc j hj
    rw [ha] at hb
    injection hb with hb
    subst hb
    rw [hcell, hy]
theorem oneL (xs : List Int) : ∀ u ∈ xs.map lv, u.oneCell' = true := by
  intro u hu
  obtain ⟨_, _, rfl⟩ := List.mem_map.1 hu
  rfl
theorem srcN {w : World} {v : Value} {xs : List Nat} (h : RdN w v xs) : SrcAt w 1 v xs.length (xs.map u32v) := by
  obtain ⟨A, cap, rfl, hl, hc⟩ := h
  refine ⟨A, cap, rfl, by simp, fun e => ?_, fun a ha j x hx => ?_⟩
  · rcases Nat.eq_zero_or_pos xs.length with h0 | h0
    · exact h0
    · obtain ⟨a, ha, -⟩ := hc 0 h0
      rw [e] at ha
      cases ha
  · rw [List.getElem?_map, Option.map_eq_some_iff] at hx
    obtain ⟨y, hy, rfl⟩ := hx
    obtain ⟨hj, hy⟩ := List.getElem?_eq_some_iff.1 hy
    obtain ⟨b, hb, -, hcell⟩ := hc j hj
    rw [ha] at hb
    injection hb with hb
    subst hb
    rw [hcell, hy]
theorem oneN (xs : List Nat) : ∀ u ∈ xs.map u32v, u.oneCell' = true := by
  intro u hu
  obtain ⟨_, _, rfl⟩ := List.mem_map.1 hu
  rfl
theorem srcB {w : World} {v : Value} {xs : List Nat} (h : RdM w v xs) : SrcAt w 1 v xs.length (xs.map b8v) := by
  obtain ⟨A, cap, rfl, hl, hc⟩ := h
  refine ⟨A, cap, rfl, by simp, fun e => ?_, fun a ha j x hx => ?_⟩
  · rcases Nat.eq_zero_or_pos xs.length with h0 | h0
    · exact h0
    · obtain ⟨a, ha, -⟩ := hc 0 h0
      rw [e] at ha
      cases ha
  · rw [List.getElem?_map, Option.map_eq_some_iff] at hx
    obtain ⟨y, hy, rfl⟩ := hx
    obtain ⟨hj, hy⟩ := List.getElem?_eq_some_iff.1 hy
    obtain ⟨b, hb, -, hcell⟩ := hc j hj
    rw [ha] at hb
    injection hb with hb
    subst hb
    rw [hcell, hy]
theorem oneB (xs : List Nat) : ∀ u ∈ xs.map b8v, u.oneCell' = true := by
  intro u hu
  obtain ⟨_, _, rfl⟩ := List.mem_map.1 hu
  rfl
theorem add_addS (a : Addr) (i j : Nat) : (a.add i).add j = a.add (i + j) := by
  unfold Addr.add
  by_cases hi : i = 0 <;> by_cases hj : j = 0 <;> simp [hi, hj, Nat.add_assoc]
theorem srcS {w : World} {v : Value} {xs : List (Int × Int)} (h : RdS w v xs) : SrcAt w 2 v xs.length (slv xs) := by
  obtain ⟨A, cap, rfl, hl, hc⟩ := h
  refine ⟨A, cap, rfl, slv_len xs, fun e => ?_, fun a ha j x hx => ?_⟩
  · rcases Nat.eq_zero_or_pos xs.length with h0 | h0
    · exact h0
    · obtain ⟨a, ha, -⟩ := hc 0 h0
      rw [e] at ha
      cases ha
  · have hj : j < xs.length * 2 := by have := (List.getElem?_eq_some_iff.1 hx).1; rw [slv_len] at this; exact this
    obtain ⟨i, hi⟩ : ∃ i, j = i * 2 ∨ j = i * 2 + 1 := ⟨j / 2, by omega⟩
    obtain ⟨b, hb, -, q0, q1⟩ := hc i (by omega)
    rw [ha] at hb
    injection hb with hb
    subst hb
    rcases hi with rfl | rfl
    · rw [slv_get0 (by omega)] at hx
      rw [q0, hx]
    · rw [slv_get1 (by omega)] at hx
      rw [← add_addS, q1, hx]
theorem oneS (xs : List (Int × Int)) : ∀ u ∈ slv xs, u.oneCell' = true := slv_one
set_option maxRecDepth 100000 in
set_option maxHeartbeats 1000000 in
theorem cloneI (v : Value) (xs : List Int) (hx : xs.length ≤ 4194304) (W : World) (hr : RdI W v xs) : Calls Try.prog 110 #[v] W (NewI W xs) := by
  obtain ⟨i0, hi, hz0, hz1, hz2⟩ := info_parts infoI
  have hs := srcI hr
  obtain ⟨A, cap, rfl⟩ := hr.form
  have HS := Lib.hid (srcI (hr.below (below_alloc W (.cells #[] 21))))
  cases A with
  | none =>
    have h0 : xs.length = 0 := by
      obtain ⟨A, c, e, -, hn, -⟩ := hs
      injection e with e1
      exact hn e1.symm
    have hxs : xs = [] := List.eq_nil_of_length_eq_zero h0
    subst hxs
    clear hr hs HS hx h0
    have he := fun w => Lib.run_eql_slice_nil (P := Try.prog) w 50 21 none 0 cap 0 0 Try.underlying50
    go_enter Try.func110, Try.ntmps110
    go_wp2_with fail
    go_ret
    exact ⟨_, rfl, World.ownsRow_nil _ _ _ _, by go_grown⟩
  | some a =>
    clear hr hs
    have he := fun w => Lib.run_eql_slice_nil (P := Try.prog) w 50 21 (some a) xs.length cap 0 0 Try.underlying50
    go_enter Try.func110, Try.ntmps110
    go_wp2_with (at_builtin; refine wpList_append_src rfl _ _ 50 rfl W.heap.size 21 i0 (.int .i32 0) 1 4 Try.underlying50 hi hz0 hz1 hz2 rfl (by decide) _ 0 [] rfl (own_emptyG W 21 1) _ xs.length (xs.map iv) rfl HS.out (oneI xs) (by unfold maxLen; omega) (by omega) (by simp) ?_; intro v' w1 hown halt)
    go_ret
    refine ⟨v', rfl, ?_, ?_⟩
    · simpa using hown
    · exact (below_alloc W _).grown halt.out.grown (by simp) (fun k hk => own_lt (own_emptyG W 21 1) k hk)
set_option maxRecDepth 100000 in
set_option maxHeartbeats 1000000 in
theorem cloneS (v : Value) (xs : List (Int × Int)) (hx : xs.length ≤ 4194304) (W : World) (hr : RdS W v xs) : Calls Try.prog 111 #[v] W (NewS W xs) := by
  obtain ⟨i0, hi, hz0, hz1, hz2⟩ := info_parts infoS
  have hs := srcS hr
  obtain ⟨A, cap, rfl⟩ := hr.form
  have HS := Lib.hid (srcS (hr.below (below_alloc W (.cells #[] 109))))
  cases A with
  | none =>
    have h0 : xs.length = 0 := by
      obtain ⟨A, c, e, -, hn, -⟩ := hs
      injection e with e1
      exact hn e1.symm
    have hxs : xs = [] := List.eq_nil_of_length_eq_zero h0
    subst hxs
    clear hr hs HS hx h0
    have he := fun w => Lib.run_eql_slice_nil (P := Try.prog) w 57 109 none 0 cap 0 0 Try.underlying57
    go_enter Try.func111, Try.ntmps111
    go_wp2_with fail
    go_ret
    exact ⟨_, rfl, World.ownsRow_nil _ _ _ _, by go_grown⟩
  | some a =>
    clear hr hs
    have he := fun w => Lib.run_eql_slice_nil (P := Try.prog) w 57 109 (some a) xs.length cap 0 0 Try.underlying57
    go_enter Try.func111, Try.ntmps111
    go_wp2_with (at_builtin; refine wpList_append_src rfl _ _ 57 rfl W.heap.size 109 i0 (.agg #[.int .i64 0, .int .i32 0]) 2 16 Try.underlying57 hi hz0 hz1 hz2 rfl (by decide) _ 0 [] rfl (own_emptyG W 109 2) _ xs.length (slv xs) rfl HS.out (oneS xs) (by unfold maxLen; omega) (by omega) (by simp) ?_; intro v' w1 hown halt)
    go_ret
    refine ⟨v', rfl, ?_, ?_⟩
    · simpa using hown
    · exact (below_alloc W _).grown halt.out.grown (by simp) (fun k hk => own_lt (own_emptyG W 109 2) k hk)
set_option maxRecDepth 100000 in
set_option maxHeartbeats 1000000 in
theorem cloneL (v : Value) (xs : List Int) (hx : xs.length ≤ 4194304) (W : World) (hr : RdL W v xs) : Calls Try.prog 113 #[v] W (NewL W xs) := by
  obtain ⟨i0, hi, hz0, hz1, hz2⟩ := info_parts infoL
  have hs := srcL hr
  obtain ⟨A, cap, rfl⟩ := hr.form
  have HS := Lib.hid (srcL (hr.below (below_alloc W (.cells #[] 3))))
  cases A with
  | none =>
    have h0 : xs.length = 0 := by
      obtain ⟨A, c, e, -, hn, -⟩ := hs
      injection e with e1
      exact hn e1.symm
    have hxs : xs = [] := List.eq_nil_of_length_eq_zero h0
    subst hxs
    clear hr hs HS hx h0
    have he := fun w => Lib.run_eql_slice_nil (P := Try.prog) w 53 3 none 0 cap 0 0 Try.underlying53
    go_enter Try.func113, Try.ntmps113
    go_wp2_with fail
    go_ret
    exact ⟨_, rfl, World.ownsRow_nil _ _ _ _, by go_grown⟩
  | some a =>
    clear hr hs
    have he := fun w => Lib.run_eql_slice_nil (P := Try.prog) w 53 3 (some a) xs.length cap 0 0 Try.underlying53
    go_enter Try.func113, Try.ntmps113
    go_wp2_with (at_builtin; refine wpList_append_src rfl _ _ 53 rfl W.heap.size 3 i0 (.int .i64 0) 1 8 Try.underlying53 hi hz0 hz1 hz2 rfl (by decide) _ 0 [] rfl (own_emptyG W 3 1) _ xs.length (xs.map lv) rfl HS.out (oneL xs) (by unfold maxLen; omega) (by omega) (by simp) ?_; intro v' w1 hown halt)
    go_ret
    refine ⟨v', rfl, ?_, ?_⟩
    · simpa using hown
    · exact (below_alloc W _).grown halt.out.grown (by simp) (fun k hk => own_lt (own_emptyG W 3 1) k hk)
set_option maxRecDepth 100000 in
set_option maxHeartbeats 1000000 in
theorem cloneN (v : Value) (xs : List Nat) (hx : xs.length ≤ 4194304) (W : World) (hr : RdN W v xs) : Calls Try.prog 112 #[v] W (NewN W xs) := by
  obtain ⟨i0, hi, hz0, hz1, hz2⟩ := info_parts infoU32
  have hs := srcN hr
  obtain ⟨A, cap, rfl⟩ := hr.form
  have HS := Lib.hid (srcN (hr.below (below_alloc W (.cells #[] 144))))
  cases A with
  | none =>
    have h0 : xs.length = 0 := by
      obtain ⟨A, c, e, -, hn, -⟩ := hs
      injection e with e1
      exact hn e1.symm
    have hxs : xs = [] := List.eq_nil_of_length_eq_zero h0
    subst hxs
    clear hr hs HS hx h0
    have he := fun w => Lib.run_eql_slice_nil (P := Try.prog) w 52 144 none 0 cap 0 0 Try.underlying52
    go_enter Try.func112, Try.ntmps112
    go_wp2_with fail
    go_ret
    exact ⟨_, rfl, World.ownsRow_nil _ _ _ _, by go_grown⟩
  | some a =>
    clear hr hs
    have he := fun w => Lib.run_eql_slice_nil (P := Try.prog) w 52 144 (some a) xs.length cap 0 0 Try.underlying52
    go_enter Try.func112, Try.ntmps112
    go_wp2_with (at_builtin; refine wpList_append_src rfl _ _ 52 rfl W.heap.size 144 i0 (.int .u32 0) 1 4 Try.underlying52 hi hz0 hz1 hz2 rfl (by decide) _ 0 [] rfl (own_emptyG W 144 1) _ xs.length (xs.map u32v) rfl HS.out (oneN xs) (by unfold maxLen; omega) (by omega) (by simp) ?_; intro v' w1 hown halt)
    go_ret
    refine ⟨v', rfl, ?_, ?_⟩
    · simpa using hown
    · exact (below_alloc W _).grown halt.out.grown (by simp) (fun k hk => own_lt (own_emptyG W 144 1) k hk)
set_option maxRecDepth 100000 in
set_option maxHeartbeats 1000000 in
theorem cloneB (v : Value) (xs : List Nat) (hx : xs.length ≤ 4194304) (W : World) (hr : RdM W v xs) : Calls Try.prog 114 #[v] W (NewM W xs) := by
  obtain ⟨i0, hi, hz0, hz1, hz2⟩ := info_parts infoB8
  have hs := srcB hr
  obtain ⟨A, cap, rfl⟩ := hr.form
  have HS := Lib.hid (srcB (hr.below (below_alloc W (.cells #[] 5))))
  cases A with
  | none =>
    have h0 : xs.length = 0 := by
      obtain ⟨A, c, e, -, hn, -⟩ := hs
      injection e with e1
      exact hn e1.symm
    have hxs : xs = [] := List.eq_nil_of_length_eq_zero h0
    subst hxs
    clear hr hs HS hx h0
    have he := fun w => Lib.run_eql_slice_nil (P := Try.prog) w 22 5 none 0 cap 0 0 Try.underlying22
    go_enter Try.func114, Try.ntmps114
    go_wp2_with fail
    go_ret
    exact ⟨_, rfl, World.ownsRow_nil _ _ _ _, by go_grown⟩
  | some a =>
    clear hr hs
    have he := fun w => Lib.run_eql_slice_nil (P := Try.prog) w 22 5 (some a) xs.length cap 0 0 Try.underlying22
    go_enter Try.func114, Try.ntmps114
    go_wp2_with (at_builtin; refine wpList_append_src rfl _ _ 22 rfl W.heap.size 5 i0 (.int .u8 0) 1 1 Try.underlying22 hi hz0 hz1 hz2 rfl (by decide) _ 0 [] rfl (own_emptyG W 5 1) _ xs.length (xs.map b8v) rfl HS.out (oneB xs) (by unfold maxLen; omega) (by omega) (by simp) ?_; intro v' w1 hown halt)
    go_ret
    refine ⟨v', rfl, ?_, ?_⟩
    · simpa using hown
    · exact (below_alloc W _).grown halt.out.grown (by simp) (fun k hk => own_lt (own_emptyG W 5 1) k hk)
end Go.Proofs.Ytlkkobffgbjkpaa
