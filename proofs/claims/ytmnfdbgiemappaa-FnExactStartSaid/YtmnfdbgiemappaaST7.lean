/-
  Lists as sources of appends; slices.Clone at each kind of list.
  What a word makes on a bench.
  (*bench).tell: numbers put on a bench.
-/
import Derived.Test.YtmnfdbgiemappaaST6
import Derived.Test.YtmnfdbgiemappaaST1
import Derived.Lib.SliceRun
namespace Go.Proofs.Ytmnfdbgiemappaa
open Go.RowKit Go

theorem own_emptyG (w : World) (e : TypeId) (size : Nat) : (w.alloc (.cells #[] e)).ownsRow w.heap.size e size (.slice (some ⟨w.heap.size, 0, none⟩) 0 0) 0 [] :=
  ⟨by simp, .inr ⟨w.heap.size, 0, #[], rfl, Nat.le_refl _, heap_alloc_new w _, Nat.le_refl _, Nat.zero_le _, by simp, by simp⟩⟩
theorem srcI {w : World} {v : Value} {xs : List Int} (h : RdI w v xs) : SrcAt w 1 v xs.length (xs.map iv) := by
  obtain ⟨A, cap, rfl, hl, hc⟩ := h
  refine ⟨A, cap, rfl, by simp, fun e => ?_, fun a ha j x hx => ?_⟩
  · rcases Nat.eq_zero_or_pos xs.length with h0 | h0
    · exact h0
    · obtain ⟨a, ha, -⟩ := hc 0 h0
      rw [e] at ha
      cases ha
  · rw [List.getElem?_map, Option.map_eq_some_iff] at hx
    obtain ⟨y, hy, rfl⟩ := hx
    obtain ⟨hj, hy⟩ := List.getElem?_eq_some_iff.1 hy
    obtain ⟨b, hb, -, hcell⟩ := hc j hj
    rw [ha] at hb
    injection hb with hb
    subst hb
    rw [hcell, hy]
theorem oneI (xs : List Int) : ∀ u ∈ xs.map iv, u.oneCell' = true := by
  intro u hu
  obtain ⟨_, _, rfl⟩ := List.mem_map.1 hu
  rfl
theorem srcL {w : World} {v : Value} {xs : List Int} (h : RdL w v xs) : SrcAt w 1 v xs.length (xs.map lv) := by
  obtain ⟨A, cap, rfl, hl, hc⟩ := h
  refine ⟨A, cap, rfl, by simp, fun e => ?_, fun a ha j x hx => ?_⟩
  · rcases Nat.eq_zero_or_pos xs.length with h0 | h0
    · exact h0
    · obtain ⟨a, ha, -⟩ := hc 0 h0
      rw [e] at ha
      cases ha
  · rw [List.getElem?_map, Option.map_eq_some_iff] at hx
    obtain ⟨y, hy, rfl⟩ := hx
    obtain ⟨hj, hy⟩ := List.getElem?_eq_some_iff.1 hy
    obtain ⟨b, hb, -, hcell⟩ := hc j hj
    rw [ha] at hb
    injection hb with hb
    subst hb
    rw [hcell, hy]
theorem oneL (xs : List Int) : ∀ u ∈ xs.map lv, u.oneCell' = true := by
  intro u hu
  obtain ⟨_, _, rfl⟩ := List.mem_map.1 hu
  rfl
theorem srcN {w : World} {v : Value} {xs : List Nat} (h : RdN w v xs) : SrcAt w 1 v xs.length (xs.map u32v) := by
  obtain ⟨A, cap, rfl, hl, hc⟩ := h
  refine ⟨A, cap, rfl, by simp, fun e => ?_, fun a ha j x hx => ?_⟩
  · rcases Nat.eq_zero_or_pos xs.length with h0 | h0
    · exact h0
    · obtain ⟨a, ha, -⟩ := hc 0 h0
      rw [e] at ha
      cases ha
  · rw [List.getElem?_map, Option.map_eq_some_iff] at hx
    obtain ⟨y, hy, rfl⟩ := hx
    obtain ⟨hj, hy⟩ := List.getElem?_eq_some_iff.1 hy
    obtain ⟨b, hb, -, hcell⟩ := hc j hj
    rw [ha] at hb
    injection hb with hb
    subst hb
    rw [hcell, hy]
theorem oneN (xs : List Nat) : ∀ u ∈ xs.map u32v, u.oneCell' = true := by
  intro u hu
  obtain ⟨_, _, rfl⟩ := List.mem_map.1 hu
  rfl
theorem srcB {w : World} {v : Value} {xs : List Nat} (h : RdM w v xs) : SrcAt w 1 v xs.length (xs.map b8v) := by
  obtain ⟨A, cap, rfl, hl, hc⟩ := h
  refine ⟨A, cap, rfl, by simp, fun e => ?_, fun a ha j x hx => ?_⟩
  · rcases Nat.eq_zero_or_pos xs.length with h0 | h0
    · exact h0
    · obtain ⟨a, ha, -⟩ := hc 0 h0
      rw [e] at ha
      cases ha
  · rw [List.getElem?_map, Option.map_eq_some_iff] at hx
    obtain ⟨y, hy, rfl⟩ := hx
    obtain ⟨hj, hy⟩ := List.getElem?_eq_some_iff.1 hy
    obtain ⟨b, hb, -, hcell⟩ := hc j hj
    rw [ha] at hb
    injection hb with hb
    subst hb
    rw [hcell, hy]
theorem oneB (xs : List Nat) : ∀ u ∈ xs.map b8v, u.oneCell' = true := by
  intro u hu
  obtain ⟨_, _, rfl⟩ := List.mem_map.1 hu
  rfl
theorem add_addS (a : Addr) (i j : Nat) : (a.add i).add j = a.add (i + j) := by
  unfold Addr.add
  by_cases hi : i = 0 <;> by_cases hj : j = 0 <;> simp [hi, hj, Nat.add_assoc]
theorem srcS {w : World} {v : Value} {xs : List (Int × Int)} (h : RdS w v xs) : SrcAt w 2 v xs.length (slv xs) := by
  obtain ⟨A, cap, rfl, hl, hc⟩ := h
  refine ⟨A, cap, rfl, slv_len xs, fun e => ?_, fun a ha j x hx => ?_⟩
  · rcases Nat.eq_zero_or_pos xs.length with h0 | h0
    · exact h0
    · obtain ⟨a, ha, -⟩ := hc 0 h0
      rw [e] at ha
      cases ha
  · have hj : j < xs.length * 2 := by have := (List.getElem?_eq_some_iff.1 hx).1; rw [slv_len] at this; exact this
    obtain ⟨i, hi⟩ : ∃ i, j = i * 2 ∨ j = i * 2 + 1 := ⟨j / 2, by omega⟩
    obtain ⟨b, hb, -, q0, q1⟩ := hc i (by omega)
    rw [ha] at hb
    injection hb with hb
    subst hb
    rcases hi with rfl | rfl
    · rw [slv_get0 (by omega)] at hx
      rw [q0, hx]
    · rw [slv_get1 (by omega)] at hx
      rw [← add_addS, q1, hx]
theorem oneS (xs : List (Int × Int)) : ∀ u ∈ slv xs, u.oneCell' = true := slv_one
set_option maxRecDepth 100000 in
set_option maxHeartbeats 1000000 in
theorem cloneI (v : Value) (xs : List Int) (hx : xs.length ≤ 4194304) (W : World) (hr : RdI W v xs) : Calls Try.prog 69 #[v] W (NewI W xs) := by
  obtain ⟨i0, hi, hz0, hz1, hz2⟩ := info_parts infoI
  have hs := srcI hr
  obtain ⟨A, cap, rfl⟩ := hr.form
  have HS := Lib.hid (srcI (hr.below (below_alloc W (.cells #[] 21))))
  cases A with
  | none =>
    have h0 : xs.length = 0 := by
      obtain ⟨A, c, e, -, hn, -⟩ := hs
      injection e with e1
      exact hn e1.symm
    have hxs : xs = [] := List.eq_nil_of_length_eq_zero h0
    subst hxs
    clear hr hs HS hx h0
    have he := fun w => Lib.run_eql_slice_nil (P := Try.prog) w 23 21 none 0 cap 0 0 Try.underlying23
    go_enter Try.func69, Try.ntmps69
    go_wp2_with fail
    go_ret
    exact ⟨_, rfl, World.ownsRow_nil _ _ _ _, by go_grown⟩
  | some a =>
    clear hr hs
    have he := fun w => Lib.run_eql_slice_nil (P := Try.prog) w 23 21 (some a) xs.length cap 0 0 Try.underlying23
    go_enter Try.func69, Try.ntmps69
    go_wp2_with (at_builtin; refine wpList_append_src rfl _ _ 23 rfl W.heap.size 21 i0 (.int .i32 0) 1 4 Try.underlying23 hi hz0 hz1 hz2 rfl (by decide) _ 0 [] rfl (own_emptyG W 21 1) _ xs.length (xs.map iv) rfl HS.out (oneI xs) (by unfold maxLen; omega) (by omega) (by simp) ?_; intro v' w1 hown halt)
    go_ret
    refine ⟨v', rfl, ?_, ?_⟩
    · simpa using hown
    · exact (below_alloc W _).grown halt.out.grown (by simp) (fun k hk => own_lt (own_emptyG W 21 1) k hk)
set_option maxRecDepth 100000 in
set_option maxHeartbeats 1000000 in
theorem cloneS (v : Value) (xs : List (Int × Int)) (hx : xs.length ≤ 4194304) (W : World) (hr : RdS W v xs) : Calls Try.prog 70 #[v] W (NewS W xs) := by
  obtain ⟨i0, hi, hz0, hz1, hz2⟩ := info_parts infoS
  have hs := srcS hr
  obtain ⟨A, cap, rfl⟩ := hr.form
  have HS := Lib.hid (srcS (hr.below (below_alloc W (.cells #[] 58))))
  cases A with
  | none =>
    have h0 : xs.length = 0 := by
      obtain ⟨A, c, e, -, hn, -⟩ := hs
      injection e with e1
      exact hn e1.symm
    have hxs : xs = [] := List.eq_nil_of_length_eq_zero h0
    subst hxs
    clear hr hs HS hx h0
    have he := fun w => Lib.run_eql_slice_nil (P := Try.prog) w 32 58 none 0 cap 0 0 Try.underlying32
    go_enter Try.func70, Try.ntmps70
    go_wp2_with fail
    go_ret
    exact ⟨_, rfl, World.ownsRow_nil _ _ _ _, by go_grown⟩
  | some a =>
    clear hr hs
    have he := fun w => Lib.run_eql_slice_nil (P := Try.prog) w 32 58 (some a) xs.length cap 0 0 Try.underlying32
    go_enter Try.func70, Try.ntmps70
    go_wp2_with (at_builtin; refine wpList_append_src rfl _ _ 32 rfl W.heap.size 58 i0 (.agg #[.int .i64 0, .int .i32 0]) 2 16 Try.underlying32 hi hz0 hz1 hz2 rfl (by decide) _ 0 [] rfl (own_emptyG W 58 2) _ xs.length (slv xs) rfl HS.out (oneS xs) (by unfold maxLen; omega) (by omega) (by simp) ?_; intro v' w1 hown halt)
    go_ret
    refine ⟨v', rfl, ?_, ?_⟩
    · simpa using hown
    · exact (below_alloc W _).grown halt.out.grown (by simp) (fun k hk => own_lt (own_emptyG W 58 2) k hk)
set_option maxRecDepth 100000 in
set_option maxHeartbeats 1000000 in
theorem cloneL (v : Value) (xs : List Int) (hx : xs.length ≤ 4194304) (W : World) (hr : RdL W v xs) : Calls Try.prog 72 #[v] W (NewL W xs) := by
  obtain ⟨i0, hi, hz0, hz1, hz2⟩ := info_parts infoL
  have hs := srcL hr
  obtain ⟨A, cap, rfl⟩ := hr.form
  have HS := Lib.hid (srcL (hr.below (below_alloc W (.cells #[] 3))))
  cases A with
  | none =>
    have h0 : xs.length = 0 := by
      obtain ⟨A, c, e, -, hn, -⟩ := hs
      injection e with e1
      exact hn e1.symm
    have hxs : xs = [] := List.eq_nil_of_length_eq_zero h0
    subst hxs
    clear hr hs HS hx h0
    have he := fun w => Lib.run_eql_slice_nil (P := Try.prog) w 26 3 none 0 cap 0 0 Try.underlying26
    go_enter Try.func72, Try.ntmps72
    go_wp2_with fail
    go_ret
    exact ⟨_, rfl, World.ownsRow_nil _ _ _ _, by go_grown⟩
  | some a =>
    clear hr hs
    have he := fun w => Lib.run_eql_slice_nil (P := Try.prog) w 26 3 (some a) xs.length cap 0 0 Try.underlying26
    go_enter Try.func72, Try.ntmps72
    go_wp2_with (at_builtin; refine wpList_append_src rfl _ _ 26 rfl W.heap.size 3 i0 (.int .i64 0) 1 8 Try.underlying26 hi hz0 hz1 hz2 rfl (by decide) _ 0 [] rfl (own_emptyG W 3 1) _ xs.length (xs.map lv) rfl HS.out (oneL xs) (by unfold maxLen; omega) (by omega) (by simp) ?_; intro v' w1 hown halt)
    go_ret
    refine ⟨v', rfl, ?_, ?_⟩
    · simpa using hown
    · exact (below_alloc W _).grown halt.out.grown (by simp) (fun k hk => own_lt (own_emptyG W 3 1) k hk)
set_option maxRecDepth 100000 in
set_option maxHeartbeats 1000000 in
theorem cloneN (v : Value) (xs : List Nat) (hx : xs.length ≤ 4194304) (W : World) (hr : RdN W v xs) : Calls Try.prog 71 #[v] W (NewN W xs) := by
  obtain ⟨i0, hi, hz0, hz1, hz2⟩ := info_parts infoU32
  have hs := srcN hr
  obtain ⟨A, cap, rfl⟩ := hr.form
  have HS := Lib.hid (srcN (hr.below (below_alloc W (.cells #[] 95))))
  cases A with
  | none =>
    have h0 : xs.length = 0 := by
      obtain ⟨A, c, e, -, hn, -⟩ := hs
      injection e with e1
      exact hn e1.symm
    have hxs : xs = [] := List.eq_nil_of_length_eq_zero h0
    subst hxs
    clear hr hs HS hx h0
    have he := fun w => Lib.run_eql_slice_nil (P := Try.prog) w 25 95 none 0 cap 0 0 Try.underlying25
    go_enter Try.func71, Try.ntmps71
    go_wp2_with fail
    go_ret
    exact ⟨_, rfl, World.ownsRow_nil _ _ _ _, by go_grown⟩
  | some a =>
    clear hr hs
    have he := fun w => Lib.run_eql_slice_nil (P := Try.prog) w 25 95 (some a) xs.length cap 0 0 Try.underlying25
    go_enter Try.func71, Try.ntmps71
    go_wp2_with (at_builtin; refine wpList_append_src rfl _ _ 25 rfl W.heap.size 95 i0 (.int .u32 0) 1 4 Try.underlying25 hi hz0 hz1 hz2 rfl (by decide) _ 0 [] rfl (own_emptyG W 95 1) _ xs.length (xs.map u32v) rfl HS.out (oneN xs) (by unfold maxLen; omega) (by omega) (by simp) ?_; intro v' w1 hown halt)
    go_ret
    refine ⟨v', rfl, ?_, ?_⟩
    · simpa using hown
    · exact (below_alloc W _).grown halt.out.grown (by simp) (fun k hk => own_lt (own_emptyG W 95 1) k hk)
set_option maxRecDepth 100000 in
set_option maxHeartbeats 1000000 in
theorem cloneB (v : Value) (xs : List Nat) (hx : xs.length ≤ 4194304) (W : World) (hr : RdM W v xs) : Calls Try.prog 73 #[v] W (NewM W xs) := by
  obtain ⟨i0, hi, hz0, hz1, hz2⟩ := info_parts infoB8
  have hs := srcB hr
  obtain ⟨A, cap, rfl⟩ := hr.form
  have HS := Lib.hid (srcB (hr.below (below_alloc W (.cells #[] 5))))
  cases A with
  | none =>
    have h0 : xs.length = 0 := by
      obtain ⟨A, c, e, -, hn, -⟩ := hs
      injection e with e1
      exact hn e1.symm
    have hxs : xs = [] := List.eq_nil_of_length_eq_zero h0
    subst hxs
    clear hr hs HS hx h0
    have he := fun w => Lib.run_eql_slice_nil (P := Try.prog) w 27 5 none 0 cap 0 0 Try.underlying27
    go_enter Try.func73, Try.ntmps73
    go_wp2_with fail
    go_ret
    exact ⟨_, rfl, World.ownsRow_nil _ _ _ _, by go_grown⟩
  | some a =>
    clear hr hs
    have he := fun w => Lib.run_eql_slice_nil (P := Try.prog) w 27 5 (some a) xs.length cap 0 0 Try.underlying27
    go_enter Try.func73, Try.ntmps73
    go_wp2_with (at_builtin; refine wpList_append_src rfl _ _ 27 rfl W.heap.size 5 i0 (.int .u8 0) 1 1 Try.underlying27 hi hz0 hz1 hz2 rfl (by decide) _ 0 [] rfl (own_emptyG W 5 1) _ xs.length (xs.map b8v) rfl HS.out (oneB xs) (by unfold maxLen; omega) (by omega) (by simp) ?_; intro v' w1 hown halt)
    go_ret
    refine ⟨v', rfl, ?_, ?_⟩
    · simpa using hown
    · exact (below_alloc W _).grown halt.out.grown (by simp) (fun k hk => own_lt (own_emptyG W 5 1) k hk)
end Go.Proofs.Ytmnfdbgiemappaa

namespace Go.Proofs.Ytmnfdbgiemappaa
open Go.RowKit Go

/-- What holds a bench: its type, and what stands behind the ten cells. -/
structure BZ where
  t : TypeId
  rest : Array Value
  n1 : t ≠ 21
  n2 : t ≠ 58
  n3 : t ≠ 95
  n4 : t ≠ 3
  n5 : t ≠ 5
def BZ.cs (Z : BZ) (a : Array Value) : Array Value := a ++ Z.rest
/-- A bench alone. -/
def bench0 : BZ := ⟨68, #[], by decide, by decide, by decide, by decide, by decide⟩
variable {Z : BZ}
theorem BZ.get {a : Array Value} {i : Nat} (h : i < a.size) : (Z.cs a)[i]? = a[i]? := by
  unfold BZ.cs
  exact Array.getElem?_append_left h
theorem bz0 {w : World} {g : Nat} {a : Array Value} : Blk w g bench0.t (bench0.cs a) ↔ Blk w g 68 a := by
  unfold BZ.cs bench0
  simp
theorem Blk.putZ {w : World} {g : Nat} {a : Array Value} (h : Blk w g Z.t (Z.cs a)) (i : Nat) (hi : i < a.size) (u : Value) : Blk (w.setCell ⟨g, i, none⟩ u) g Z.t (Z.cs (a.setIfInBounds i u)) := by
  have e : Z.cs (a.setIfInBounds i u) = (Z.cs a).setIfInBounds i u := by
    unfold BZ.cs
    exact (Array.setIfInBounds_append_left hi).symm
  rw [e]
  exact h.put i u
/-- The ten cells of a bench. -/
theorem bz_cells {w : World} {g : Nat} {x0 x1 x2 x3 x4 x5 x6 x7 x8 x9 : Value} (k : Blk w g Z.t (Z.cs #[x0, x1, x2, x3, x4, x5, x6, x7, x8, x9])) :
    w.cell? ⟨g, 0, none⟩ = some x0 ∧ w.cell? ⟨g, 1, none⟩ = some x1 ∧ w.cell? ⟨g, 2, none⟩ = some x2 ∧ w.cell? ⟨g, 3, none⟩ = some x3 ∧ w.cell? ⟨g, 4, none⟩ = some x4 ∧ w.cell? ⟨g, 5, none⟩ = some x5 ∧ w.cell? ⟨g, 6, none⟩ = some x6 ∧ w.cell? ⟨g, 7, none⟩ = some x7 ∧ w.cell? ⟨g, 8, none⟩ = some x8 ∧ w.cell? ⟨g, 9, none⟩ = some x9 :=
  ⟨(k.cell 0).trans (BZ.get (by simp)), (k.cell 1).trans (BZ.get (by simp)), (k.cell 2).trans (BZ.get (by simp)), (k.cell 3).trans (BZ.get (by simp)), (k.cell 4).trans (BZ.get (by simp)), (k.cell 5).trans (BZ.get (by simp)), (k.cell 6).trans (BZ.get (by simp)), (k.cell 7).trans (BZ.get (by simp)), (k.cell 8).trans (BZ.get (by simp)), (k.cell 9).trans (BZ.get (by simp))⟩

/-- Nothing but the blocks of P (and new ones) has changed. -/
structure Chg (w w' : World) (P : Nat → Prop) : Prop where
  os : w'.os = w.os
  tape : w'.tape = w.tape
  output : w'.output = w.output
  size : w.heap.size ≤ w'.heap.size
  block : ∀ k, k < w.heap.size → ¬ P k → w'.heap[k]? = w.heap[k]?
theorem Chg.refl (w : World) (P : Nat → Prop) : Chg w w P := ⟨rfl, rfl, rfl, Nat.le_refl _, fun _ _ _ => rfl⟩
theorem Chg.trans {a b c : World} {P : Nat → Prop} (h : Chg a b P) (k : Chg b c P) : Chg a c P :=
  ⟨k.os.trans h.os, k.tape.trans h.tape, k.output.trans h.output, Nat.le_trans h.size k.size, fun i hi hn => (k.block i (Nat.lt_of_lt_of_le hi h.size) hn).trans (h.block i hi hn)⟩
theorem Chg.weaken {w w' : World} {P Q : Nat → Prop} (h : Chg w w' P) (hq : ∀ k, k < w.heap.size → P k → Q k) : Chg w w' Q := ⟨h.os, h.tape, h.output, h.size, fun k hk hn => h.block k hk (fun hp => hn (hq k hk hp))⟩
theorem Chg.of_below {w w' : World} {P : Nat → Prop} (h : Below w.heap.size w w') : Chg w w' P := ⟨h.os, h.tape, h.output, h.size, fun k hk _ => h.block k hk⟩
theorem Chg.of_grown {w w' : World} {P : Nat → Prop} {row : Option Nat} (h : w.grownBy w' row) (hr : ∀ k, row = some k → P k) : Chg w w' P := ⟨h.os, h.tape, h.output, h.size, fun k hk hn => h.block k hk (fun e => hn (hr k e.symm))⟩
theorem Chg.set {w w' : World} {P : Nat → Prop} (h : Chg w w' P) {p : Addr} (hp : P p.block) (u : Value) : Chg w (w'.setCell p u) P :=
  ⟨h.os, h.tape, h.output, by simpa [World.setCell] using h.size, fun k hk hn => (Below.heap_setCell w' p u k (by rintro rfl; exact hn hp)).trans (h.block k hk hn)⟩
theorem Chg.alloc {w w' : World} {P : Nat → Prop} (h : Chg w w' P) (o : Obj) : Chg w (w'.alloc o) P := h.trans (.of_below (below_alloc w' o))
theorem Chg.blk {w w' : World} {P : Nat → Prop} {g : Nat} {t : TypeId} {cs : Array Value} (h : Chg w w' P) (hk : Blk w g t cs) (hg : ¬ P g) : Blk w' g t cs := (h.block g hk.lt hg).trans hk
theorem Chg.own {w w' : World} {P : Nat → Prop} (h : Chg w w' P) {base size : Nat} {e : TypeId} {v : Value} {n : Nat} {xs : List Value} (ho : w.ownsRow base e size v n xs) (hp : ∀ k, v.ownBlock = some k → ¬ P k) : w'.ownsRow base e size v n xs :=
  own_same ho fun k hk => h.block k (World.ownsRow.lt ho k hk).2 (hp k hk)
theorem Chg.ownT {w w' : World} {P : Nat → Prop} (h : Chg w w' P) {base : Nat} {e : TypeId} {v : Value} {n : Nat} {xs : List Value} (ho : TailB w base e v n xs) (hp : ∀ k, v.ownBlock = some k → ¬ P k) : TailB w' base e v n xs :=
  tail_same ho fun k hk => h.block k (ho.lt k hk).2 (hp k hk)
theorem Chg.ownst {w w' : World} {P : Nat → Prop} (h : Chg w w' P) {lo hi : Nat} {d r m c v o i : Value} {S : S8} (ho : OwnSt w lo hi d r m c v o i S) (hp : ∀ x ∈ [d, r, m, c, v, o, i], ∀ k, x.ownBlock = some k → ¬ P k) : OwnSt w' lo hi d r m c v o i S :=
  ⟨ho.top, ho.dm, ho.oi, h.own ho.d (hp d (by simp)), h.own ho.r (hp r (by simp)), h.own ho.m (hp m (by simp)), h.own ho.c (hp c (by simp)), h.own ho.v (hp v (by simp)), h.own ho.o (hp o (by simp)), h.ownT ho.i (hp i (by simp))⟩
/-- A box is none of a state's rows. -/
theorem box_out {w : World} {lo hi g : Nat} {t : TypeId} {cs : Array Value} {d r m c v o i : Value} {S : S8} (ho : OwnSt w lo hi d r m c v o i S) (hk : Blk w g t cs) (h1 : t ≠ 21) (h2 : t ≠ 58) (h3 : t ≠ 95) (h4 : t ≠ 3) (h5 : t ≠ 5) : ∀ x ∈ [d, r, m, c, v, o, i], ∀ k, x.ownBlock = some k → ¬ k = g := by
  intro x hx k hk2 e
  subst e
  simp only [List.mem_cons, List.not_mem_nil, or_false] at hx
  rcases hx with rfl | rfl | rfl | rfl | rfl | rfl | rfl
  · exact box_neG hk ho.d h1 hk2.symm
  · exact box_neG hk ho.r h2 hk2.symm
  · exact box_neG hk ho.m h1 hk2.symm
  · exact box_neG hk ho.c h3 hk2.symm
  · exact box_neG hk ho.v h4 hk2.symm
  · exact box_neG hk ho.o h5 hk2.symm
  · exact box_neT hk ho.i h5 hk2.symm
/-- Where what was put lies: in the row itself, or in new memory. -/
def PutAlt (w w' : World) (g : Nat) (v v' : Value) (n n2 : Nat) : Prop :=
  (∃ q cap, v = .slice (some ⟨q, 0, none⟩) n cap ∧ v' = .slice (some ⟨q, 0, none⟩) n2 cap ∧ n2 ≤ cap ∧ Chg w w' (fun k => k = g ∨ k = q)) ∨ (Chg w w' (fun k => k = g) ∧ ∀ k, v'.ownBlock = some k → w.heap.size ≤ k)
/-- Numbers have been told: the bench's box, the row. -/
def Told (Z : BZ) (lo g : Nat) (w : World) (v : Value) (n : Nat) (X : List Int) (x1 x2 x3 x4 x5 x6 x7 x8 x9 : Value) (e : Ending) (w' : World) : Prop :=
  ∃ v', e = .returned (.int .i64 (if 16 < X.length then 2 else 0)) ∧ Blk w' g Z.t (Z.cs #[v', x1, x2, x3, x4, x5, x6, x7, x8, x9]) ∧ w'.ownsRow lo 21 1 v' X.length (X.map iv) ∧ PutAlt w w' g v v' n X.length
/-- What a word's own function makes on a bench: a fault, the rows as they were; or the next state. -/
def BenchEnd (Z : BZ) (w : World) (g lo hi : Nat) (d r m c v o i : Value) (S : S8) (res : Int ⊕ S8) (e : Ending) (w' : World) : Prop :=
  Chg w w' (fun k => k = g ∨ (lo ≤ k ∧ k < hi)) ∧
  match res with
  | .inl f => e = .returned (.int .i64 f) ∧ f ≠ 0 ∧ OwnSt w' lo hi d r m c v o i S
  | .inr T => e = .returned (.int .i64 0) ∧ ∃ d' r' m' c' v' o' i', Blk w' g Z.t (Z.cs #[d', r', .int .i32 T.a, m', c', v', o', i', .int .i64 T.fault, .int .i64 T.fuel]) ∧ OwnSt w' lo w'.heap.size d' r' m' c' v' o' i' T
theorem told_end {w w1 w' : World} {g lo hi : Nat} {A : Option Addr} {cap n : Nat} {d r m c v o i r2 m2 c2 v2 o2 i2 : Value} {S S2 : S8} {t : Nat} {l : List Int} {e : Ending}
    (hc : Chg w w1 (fun k => k = g)) (hhi : hi ≤ w.heap.size) (hd : d = .slice A S.data.length cap) (hdd : S2.data = S.data) (hn : S.data.length - t = n)
    (ho : OwnSt w1 lo hi d r m c v o i S) (ho2 : OwnSt w1 lo hi d r2 m2 c2 v2 o2 i2 S2) (hbox : ∃ t cs, Blk w1 g t cs ∧ t = Z.t)
    (hsame : 16 < n + l.length → (S.data.take n ++ l).take S.data.length = S.data ∧ S.data.length ≤ n + l.length)
    (T : Told Z lo g w1 (.slice A n cap) n (S.data.take n ++ l) r2 (.int .i32 S2.a) m2 c2 v2 o2 i2 (.int .i64 S2.fault) (.int .i64 S2.fuel) e w') : BenchEnd Z w g lo hi d r m c v o i S (put8 S2 t l) e w' := by
  subst hd
  obtain ⟨v', rfl, hB, hO, hA⟩ := T
  obtain ⟨tb, cs, hk, rfl⟩ := hbox
  have hlen : (S.data.take n ++ l).length = n + l.length := by simp; omega
  have hob : ∀ k, (Value.slice A n cap).ownBlock = some k → (Value.slice A S.data.length cap).ownBlock = some k := fun k hk => by rw [← hk]; exact own_block
  have hrow : ∀ k, (Value.slice A S.data.length cap).ownBlock = some k → lo ≤ k ∧ k < hi := fun k hk => ⟨own_lt ho.d k hk, ho.top _ (by simp) k hk⟩
  have hbo := box_out ho hk Z.n1 Z.n2 Z.n3 Z.n4 Z.n5
  have hbo2 := box_out ho2 hk Z.n1 Z.n2 Z.n3 Z.n4 Z.n5
  have hchg : Chg w w' (fun k => k = g ∨ (lo ≤ k ∧ k < hi)) := by
    refine (hc.weaken fun k _ h => .inl h).trans ?_
    rcases hA with ⟨q, cp, e1, e2, -, h⟩ | ⟨h, -⟩
    · refine h.weaken fun k _ h2 => ?_
      rcases h2 with h2 | rfl
      · exact .inl h2
      · exact .inr (hrow k (hob k (by rw [e1]; rfl)))
    · exact h.weaken fun k _ h2 => .inl h2
  by_cases h16 : 16 < n + l.length
  · have hp : put8 S2 t l = .inl 2 := by unfold put8; rw [hdd, hn, if_pos h16]
    rw [hp]
    refine ⟨hchg, by rw [hlen, if_pos h16], by decide, ?_⟩
    obtain ⟨hs, hsl⟩ := hsame h16
    rcases hA with ⟨q, cp, e1, rfl, -, h⟩ | ⟨h, -⟩
    · injection e1 with e1 e2 e3
      subst e1 e3
      have hne : ∀ x ∈ [r, m, c, v, o, i], ∀ k, x.ownBlock = some k → ¬ (k = g ∨ k = q) := by
        intro x hx k hk2 hh
        rcases hh with hh | rfl
        · exact hbo x (List.mem_cons_of_mem _ hx) k hk2 hh
        · simp only [List.mem_cons, List.not_mem_nil, or_false] at hx
          have key : ∀ {e2 : TypeId} {s2 n2 : Nat} {xs : List Value}, w1.ownsRow lo e2 s2 x n2 xs → e2 ≠ 21 → False := fun h1 h2 => by
            rcases rows_ne h1 ho.d h2 with h3 | h3
            · rw [h3] at hk2; cases hk2
            · exact h3 (by rw [hk2]; rfl)
          rcases hx with rfl | rfl | rfl | rfl | rfl | rfl
          · exact key ho.r (by decide)
          · rcases apart_sym ho.dm with h3 | h3
            · rw [h3] at hk2; cases hk2
            · exact h3 (by rw [hk2]; rfl)
          · exact key ho.c (by decide)
          · exact key ho.v (by decide)
          · exact key ho.o (by decide)
          · rcases tail_ne ho.i ho.d (by decide) with h3 | h3
            · rw [h3] at hk2; cases hk2
            · exact h3 (by rw [hk2]; rfl)
      have hdrow : w'.ownsRow lo 21 1 (.slice (some ⟨q, 0, none⟩) S.data.length cap) S.data.length (S.data.map iv) := by
        have h2 := own_prefix (n := S.data.length) hO (by rw [hlen]; exact hsl)
        rw [← List.map_take, hs] at h2
        exact h2
      exact ⟨ho.top, ho.dm, ho.oi, hdrow, h.own ho.r (hne r (by simp)), h.own ho.m (hne m (by simp)), h.own ho.c (hne c (by simp)), h.own ho.v (hne v (by simp)), h.own ho.o (hne o (by simp)), h.ownT ho.i (hne i (by simp))⟩
    · exact h.ownst ho hbo
  · have hp : put8 S2 t l = .inr { S2 with data := S.data.take n ++ l } := by unfold put8; rw [hdd, hn, if_neg h16]
    rw [hp]
    refine ⟨hchg, by rw [hlen, if_neg h16], v', r2, m2, c2, v2, o2, i2, hB, ?_⟩
    have hsz : hi ≤ w1.heap.size := Nat.le_trans hhi hc.size
    have hne : ∀ x ∈ [r2, m2, c2, v2, o2, i2], ∀ k, x.ownBlock = some k → ¬ (k = g ∨ (Value.slice A S.data.length cap).ownBlock = some k) := by
      intro x hx k hk2 hh
      rcases hh with hh | hh
      · exact hbo2 x (List.mem_cons_of_mem _ hx) k hk2 hh
      · simp only [List.mem_cons, List.not_mem_nil, or_false] at hx
        have key : ∀ {e2 : TypeId} {s2 n2 : Nat} {xs : List Value}, w1.ownsRow lo e2 s2 x n2 xs → e2 ≠ 21 → False := fun h1 h2 => by
          rcases rows_ne h1 ho2.d h2 with h3 | h3
          · rw [h3] at hk2; cases hk2
          · exact h3 (by rw [hk2, hh])
        rcases hx with rfl | rfl | rfl | rfl | rfl | rfl
        · exact key ho2.r (by decide)
        · rcases apart_sym ho2.dm with h3 | h3
          · rw [h3] at hk2; cases hk2
          · exact h3 (by rw [hk2, hh])
        · exact key ho2.c (by decide)
        · exact key ho2.v (by decide)
        · exact key ho2.o (by decide)
        · rcases tail_ne ho2.i ho2.d (by decide) with h3 | h3
          · rw [h3] at hk2; cases hk2
          · exact h3 (by rw [hk2, hh])
    have hch : Chg w1 w' (fun k => k = g ∨ (Value.slice A S.data.length cap).ownBlock = some k) := by
      rcases hA with ⟨q, cp, e1, -, -, h⟩ | ⟨h, -⟩
      · refine h.weaken fun k _ h2 => ?_
        rcases h2 with h2 | rfl
        · exact .inl h2
        · exact .inr (hob k (by rw [e1]; rfl))
      · exact h.weaken fun k _ h2 => .inl h2
    refine OwnSt.of7T (S := { S2 with data := S.data.take n ++ l }) hO (hch.own ho2.r (hne r2 (by simp))) (hch.own ho2.m (hne m2 (by simp))) (hch.own ho2.c (hne c2 (by simp))) (hch.own ho2.v (hne v2 (by simp))) (hch.own ho2.o (hne o2 (by simp))) (hch.ownT ho2.i (hne i2 (by simp))) ?_ ho2.oi
    cases hq : v'.ownBlock with
    | none => exact .inl rfl
    | some k =>
      refine .inr fun e => ?_
      rcases hA with ⟨q, cp, e1, rfl, -, h⟩ | ⟨-, h⟩
      · have hkq : q = k := by simpa [Value.ownBlock] using hq
        subst hkq
        exact hne m2 (by simp) q e.symm (.inr (hob q (by rw [e1]; rfl)))
      · have h1 := h k hq
        have h2 := ho2.top m2 (by simp) k e.symm
        omega
end Go.Proofs.Ytmnfdbgiemappaa

namespace Go.Proofs.Ytmnfdbgiemappaa
open Go.RowKit Go
variable {Z : BZ}

end Go.Proofs.Ytmnfdbgiemappaa
