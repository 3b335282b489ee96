/-
  The stack of ops: push and pop.
-/
import Derived.Test.YtlkkobffgbjkpaaOpW
import Derived.Test.YtlkkobffgbjkpaaAppend
import Derived.Test.YtlkkobffgbjkpaaBlk
import Derived.Test.YtlkkobffgbjkpaaPrimName
import Derived.RegionTactic
import Derived.ChangeAlike
import Derived.Deep.RegionLaw
import Derived.IntWalk
namespace Go.Proofs.Ytlkkobffgbjkpaa
open Go.RowKit Go

theorem step_append_src {P : Program} {ops : Array Oper} {o : Oper} {a : Act} {w : World} {K : Act → World → Prop} {Q : Exit → Act → World → Prop} {E : Prop} (hgd : o.guard = none) (s x : Operand) (t : TypeId)
    (ho : o.op = .call { callee := .builtin .append, args := #[s, x], argTypes := #[t, t] })
    (base : Nat) (e : TypeId) (i : TypeInfo) (z : Value) (size bytes : Nat) (ht : P.underlying t = some (.slice e)) (hi : P.info? e = some i) (hz : i.zero = some z)
    (hsize : i.size = size) (hby : i.bytes = bytes) (hzs : z.cells.size = size) (hsz : 0 < size)
    (v : Value) (n : Nat) (xs : List Value) (hs : a.eval s = v) (hown : w.ownsRow base e size v n xs)
    (u : Value) (m : Nat) (ys : List Value) (hx : a.eval x = u) (hsrc : SrcAt w size u m ys) (h1 : ∀ x ∈ ys, x.oneCell' = true)
    (h63 : n + m ≤ maxLen) (hbytes : (n + m) * bytes ≤ 140737488355328) (hbase : base ≤ w.heap.size)
    (h : ∀ v' w', w'.ownsRow base e size v' (n + m) (xs ++ ys) → Hid (AppAlt w w' v v' n m) → K (a.put o.dst v') w') :
    if Region.wanted o (yielded ops a.tmps) = true then Oper.wp P o a w K Q else E := by
  have hw : Region.wanted o (yielded ops a.tmps) = true := by simp [Region.wanted, hgd]
  rw [if_pos hw]
  obtain ⟨v', w', hrun, h2, h3⟩ := run_append_alt (P := P) base t o.type e i z size bytes ht hi hz hsize hby hzs hsz v n xs hown u m ys hsrc h1 h63 hbytes hbase
  unfold Oper.wp
  simp [execOp, ho, resolve, invoke, builtin, hs, hx, hrun, Result.andThen]
  exact h v' w' h2 (Lib.hid h3)
theorem slv_takeO : ∀ (xs : List (Int × Int)) (k : Nat), (slv xs).take (k * 2) = slv (xs.take k)
  | [], k => by simp [slv]
  | a :: r, 0 => by simp [slv]
  | a :: r, k + 1 => by
      rw [show (k + 1) * 2 = k * 2 + 1 + 1 by omega]
      simp only [List.take_succ_cons, slv, slv_takeO r k]
theorem own_formS {w : World} {base size : Nat} {e : TypeId} {v : Value} {n : Nat} {xs : List Value} (h : w.ownsRow base e size v n xs) : ∃ A cap, v = .slice A n cap := by
  rcases h.2 with ⟨rfl, h0⟩ | ⟨g, cap, cur, rfl, -⟩
  · exact ⟨none, 0, by rw [h0]⟩
  · exact ⟨_, _, rfl⟩
/-- A stack's box and its row. -/
structure StackAt (w : World) (lo g : Nat) (xs : List (Int × Int)) : Prop where
  val : ∃ v, Blk w g 70 #[v] ∧ w.ownsRow lo 75 2 v xs.length (slv xs)
  low : lo ≤ g
theorem box_neS {W : World} {g base size : Nat} {t e : TypeId} {cs : Array Value} {v : Value} {n : Nat} {xs : List Value} (hk : Blk W g t cs) (ho : W.ownsRow base e size v n xs) (ht : t ≠ e) : some g ≠ v.ownBlock := by
  rcases ho.2 with ⟨rfl, -⟩ | ⟨q, cap, cur, rfl, -, hq, -⟩
  · simp [Value.ownBlock]
  · intro h
    have h : g = q := by simpa [Value.ownBlock] using h
    subst h
    unfold Blk at hk
    rw [hk] at hq
    injection hq with h1
    injection h1 with _ h2
    exact ht h2
theorem StackAt.below {w w' : World} {lo g : Nat} {xs : List (Int × Int)} (h : StackAt w lo g xs) (hb : Below w.heap.size w w') : StackAt w' lo g xs := by
  obtain ⟨⟨v, h1, h2⟩, h3⟩ := h
  exact ⟨⟨v, h1.below hb h1.lt, h2.kept (row := none) ⟨hb.os, hb.tape, hb.output, hb.size, fun i hi _ => hb.block i hi⟩ (by cases v.ownBlock <;> simp)⟩, h3⟩
set_option maxRecDepth 100000 in
set_option maxHeartbeats 2000000 in
theorem push_any (lo g : Nat) (xs : List (Int × Int)) (s z : Int) (w : World) (hx : xs.length ≤ 1000) (hS : StackAt w lo g xs) :
    Calls Try.prog 97 #[.pointer (some ⟨g, 0, none⟩), .agg #[.int .i64 s, .int .i32 z]] w fun e w' => e = .returned (.tuple #[]) ∧ StackAt w' lo g (xs ++ [(s, z)]) ∧ Below lo w w' := by
  obtain ⟨⟨v, hB, hO⟩, hlo⟩ := hS
  obtain ⟨A, cap, rfl⟩ := own_formS hO
  obtain ⟨i0, hi0, hz0, hz1, hz2⟩ := info_parts infoS
  obtain ⟨n, hn⟩ : ∃ n, xs.length = n := ⟨_, rfl⟩
  rw [hn] at hO hB hx
  have hg : g < w.heap.size := hB.lt
  obtain ⟨W, hW⟩ : ∃ W, W = ((w.alloc (.cells #[.int .i64 s, .int .i32 z] 75)).alloc (.cells #[.int .i64 s, .int .i32 z] 75)).drew := ⟨_, rfl⟩
  have hWB0 : Below w.heap.size w W := by rw [hW]; exact (((below_alloc1 w _).alloc (below_alloc1 w _).size _)).drew
  have HWB := Lib.hid hWB0
  have SRC : Hid (SrcAt W 2 (.slice (some ⟨w.heap.size + 1, 0, none⟩) 1 1) 1 (slv [(s, z)])) := Lib.hid (by
    rw [hW]
    have hb := heap_alloc_new (w.alloc (.cells #[.int .i64 s, .int .i32 z] 75)) (.cells #[.int .i64 s, .int .i32 z] 75)
    rw [World.size_alloc] at hb
    refine ⟨_, _, rfl, rfl, (by simp), ?_⟩
    intro a ha j x hj
    injection ha with ha
    subst ha
    rw [addr_lit, Nat.zero_add]
    show World.cell? ((w.alloc (.cells #[.int .i64 s, .int .i32 z] 75)).alloc (.cells #[.int .i64 s, .int .i32 z] 75)) _ = _
    rw [cell_of_row _ _ j _ _ _ hb]
    simpa [slv] using hj)
  have OD2 : Hid (W.ownsRow lo 75 2 (.slice A n cap) n (slv xs)) := Lib.hid (hO.kept (row := none) ⟨hWB0.os, hWB0.tape, hWB0.output, hWB0.size, fun i hi _ => hWB0.block i hi⟩ (by cases (Value.slice A n cap).ownBlock <;> simp))
  have KBW : Hid (Blk W g 70 #[.slice A n cap]) := Lib.hid (hB.below hWB0 hB.lt)
  have hsW : lo ≤ W.heap.size := by have := hWB0.size; omega
  have HSW := Lib.hid hsW
  have HLO := Lib.hid hlo
  have hne : some g ≠ (Value.slice A n cap).ownBlock := box_neS KBW.out OD2.out (by decide)
  have HNE := Lib.hid hne
  have HW := Lib.hid hW
  have HLT : Hid (∀ k, (Value.slice A n cap).ownBlock = some k → lo ≤ k) := Lib.hid (fun k hk => (World.ownsRow.lt hO k hk).1)
  have p0 : w.cell? ⟨g, 0, none⟩ = some (.slice A n cap) := hB.cell 0
  have f0 := hB.frozen
  have f1 := f0 0
  have HN := Lib.hid hn
  have e1 : n + 1 ≤ maxLen := by unfold maxLen; omega
  have e2 : (n + 1) * 16 ≤ 140737488355328 := by omega
  clear hO hB hn hsW hne hW hlo f0 hWB0 hx
  go_enter Try.func97, Try.ntmps97
  go_wp2_with fail
  go_region_law (rw [← HW.out]; refine step_append_src rfl _ _ 70 rfl lo 75 i0 (.agg #[.int .i64 0, .int .i32 0]) 2 16 Try.underlying70 hi0 hz0 hz1 hz2 rfl (by decide) (.slice A n cap) n (slv xs) rfl OD2.out (.slice (some ⟨w.heap.size + 1, 0, none⟩) 1 1) 1 (slv [(s, z)]) rfl SRC.out slv_one e1 e2 HSW.out ?_; intro v' w2 hown halt; obtain ⟨D, dc, hv⟩ := own_formS hown; subst hv; have HO2 := Lib.hid hown; have KB2 := Lib.hid (KBW.out.grown halt.out.grown HNE.out); clear hown; clear p0 f1; have hg2 := KB2.out.lt; have p0 : w2.cell? ⟨g, 0, none⟩ = some (.slice A n cap) := KB2.out.cell 0; have f1 := KB2.out.frozen 0)
  all_goals
    have HE : Hid (StackAt (w2.setCell ⟨g, 0, none⟩ (.slice D (n + 1) dc)) lo g (xs ++ [(s, z)]) ∧ Below lo w (w2.setCell ⟨g, 0, none⟩ (.slice D (n + 1) dc))) := Lib.hid (by
      have hlen : (xs ++ [(s, z)]).length = n + 1 := by rw [List.length_append, HN.out]; rfl
      have hown2 : w2.ownsRow lo 75 2 (.slice D (n + 1) dc) (n + 1) (slv (xs ++ [(s, z)])) := by rw [slv_app]; exact HO2.out
      have hned : (Value.slice D (n + 1) dc).ownBlock = none ∨ (Value.slice D (n + 1) dc).ownBlock ≠ some g := .inr fun e => box_neS KB2.out hown2 (by decide) e.symm
      have hgr := halt.out.grown
      refine ⟨⟨⟨.slice D (n + 1) dc, by have := KB2.out.put 0 (.slice D (n + 1) dc); simpa using this, ?_⟩, HLO.out⟩, ?_⟩
      · rw [hlen]
        exact hown2.kept (row := some g) (only_setCell (World.grownBy.refl _ _) (.inl rfl) _) hned
      · have h1 : Below lo w w2 := ⟨hgr.os.trans HWB.out.os, hgr.tape.trans HWB.out.tape, hgr.output.trans HWB.out.output, Nat.le_trans HWB.out.size hgr.size, fun k hk => by
          have hkw : k < w.heap.size := by have := HLO.out; omega
          exact (hgr.block k (Nat.lt_of_lt_of_le hkw HWB.out.size) (fun e => by have := HLT.out k e.symm; omega)).trans (HWB.out.block k hkw)⟩
        exact h1.setCell (p := ⟨g, 0, none⟩) HLO.out _)
    go_wp2_with fail
    go_end0
    exact ⟨rfl, HE.out⟩
/-- The last op of a stack. -/
theorem stack_top {w : World} {lo k cap : Nat} {A : Option Addr} {xs : List (Int × Int)} (h : w.ownsRow lo 75 2 (.slice A (k + 1) cap) (k + 1) (slv xs)) : ∃ q s z, A = some ⟨q, 0, none⟩ ∧ k + 1 ≤ cap ∧ q < w.heap.size ∧ lo ≤ q ∧ xs = xs.take k ++ [(s, z)] ∧ w.cell? ⟨q, k * 2, none⟩ = some (.int .i64 s) ∧ w.cell? ⟨q, k * 2 + 1, none⟩ = some (.int .i32 z) ∧ w.ownsRow lo 75 2 (.slice A k cap) k (slv (xs.take k)) := by
  have hl := h.1
  rw [slv_len] at hl
  have hxl : xs.length = k + 1 := by omega
  rcases h.2 with ⟨e1, h0⟩ | ⟨q, cp, cur, e1, hlo, hrow, hle, hm, hsz, ht⟩
  · omega
  · injection e1 with e1 e2 e3
    subst e1 e3
    have hk : k < xs.length := by omega
    have hcell : ∀ j u, j < 2 → (slv xs)[k * 2 + j]? = some u → w.cell? ⟨q, k * 2 + j, none⟩ = some u := fun j u hj hu => by
      rw [cell_of_row w q (k * 2 + j) cur 75 (0, 0) hrow]
      have h1 := congrArg (·[k * 2 + j]?) ht
      simp only [hu, List.getElem?_take] at h1
      rw [if_pos (by omega)] at h1
      simpa using h1
    refine ⟨q, (xs[k]).1, (xs[k]).2, rfl, hle, (Array.getElem?_eq_some_iff.1 hrow).1, hlo, ?_, hcell 0 _ (by omega) (slv_get0 hk), hcell 1 _ (by omega) (slv_get1 hk), ⟨by rw [slv_len, List.length_take]; omega, .inr ⟨q, cap, cur, rfl, hlo, hrow, by omega, hm, hsz, ?_⟩⟩⟩
    · have e := List.take_append_drop k xs
      rw [List.drop_eq_getElem_cons hk, List.drop_of_length_le (by omega)] at e
      exact e.symm
    · have h2 := congrArg (List.take (k * 2)) ht
      rw [List.take_take, show min (k * 2) ((k + 1) * 2) = k * 2 by omega] at h2
      rw [h2, slv_takeO]
set_option maxRecDepth 100000 in
set_option maxHeartbeats 2000000 in
theorem pop_any (lo g : Nat) (xs : List (Int × Int)) (k : Nat) (hk : xs.length = k + 1) (hx : k ≤ 1000) (w : World) (hS : StackAt w lo g xs) :
    Calls Try.prog 96 #[.pointer (some ⟨g, 0, none⟩)] w fun e w' => ∃ s z, e = .returned (.agg #[.int .i64 s, .int .i32 z]) ∧ xs = xs.take k ++ [(s, z)] ∧ StackAt w' lo g (xs.take k) ∧ Below lo w w' ∧ w.grownBy w' (some g) := by
  obtain ⟨⟨v, hB, hO⟩, hlo⟩ := hS
  obtain ⟨A, cap, rfl⟩ := own_formS hO
  rw [hk] at hO hB
  obtain ⟨q, s, z, rfl, hcap, hq, hloq, hxs, c0, c1, hO2⟩ := stack_top hO
  have hg : g < w.heap.size := hB.lt
  have p0 : w.cell? ⟨g, 0, none⟩ = some (.slice (some ⟨q, 0, none⟩) (k + 1) cap) := hB.cell 0
  have f0 := hB.frozen
  have f1 := f0 0
  have i1 : (0 : Int) ≤ (k : Int) := by omega
  have i2 : (k : Int) < (k : Int) + 1 := by omega
  have i3 : k ≤ cap := by omega
  have i4 : (k : Int) ≤ (cap : Int) := by omega
  have wz : IntKind.i64.wrap ((k : Int) + 1 - 1) = (k : Int) := by rw [show (k : Int) + 1 - 1 = (k : Int) by omega]; exact IntWalk.i64_in _ (by omega)
  have wy : (k : Int) + 1 - 1 = (k : Int) := by omega
  have wk : IntKind.i64.wrap (k : Int) = (k : Int) := IntWalk.i64_in _ (by omega)
  have hlen : (xs.take k).length = k := by rw [List.length_take]; omega
  have HE : Hid (∀ W, Below w.heap.size w W → xs = xs.take k ++ [(s, z)] ∧ StackAt (W.setCell ⟨g, 0, none⟩ (.slice (some ⟨q, 0, none⟩) k cap)) lo g (xs.take k) ∧ Below lo w (W.setCell ⟨g, 0, none⟩ (.slice (some ⟨q, 0, none⟩) k cap))) := Lib.hid (fun W hW => by
    have hb2 := hB.below hW hB.lt
    have ho2 : W.ownsRow lo 75 2 (.slice (some ⟨q, 0, none⟩) k cap) k (slv (xs.take k)) := hO2.kept (row := none) ⟨hW.os, hW.tape, hW.output, hW.size, fun i hi _ => hW.block i hi⟩ (.inr (by simp [Value.ownBlock]))
    have hne : (Value.slice (some ⟨q, 0, none⟩) k cap).ownBlock = none ∨ (Value.slice (some ⟨q, 0, none⟩) k cap).ownBlock ≠ some g := .inr fun e => box_neS hb2 ho2 (by decide) e.symm
    refine ⟨hxs, ⟨⟨.slice (some ⟨q, 0, none⟩) k cap, by have := hb2.put 0 (.slice (some ⟨q, 0, none⟩) k cap); simpa using this, ?_⟩, hlo⟩, ?_⟩
    · rw [hlen]
      exact ho2.kept (row := some g) (only_setCell (World.grownBy.refl _ _) (.inl rfl) _) hne
    · exact (hW.mono (by omega)).setCell (p := ⟨g, 0, none⟩) hlo _)
  have HLQ : Hid (lo ≤ w.heap.size) := Lib.hid (by omega)
  clear hO hB hxs hlo hloq hO2 f0 hk hlen hx
  go_enter Try.func96, Try.ntmps96
  go_wp2_with fail
  obtain ⟨e1, e2, e3⟩ := HE.out w (Below.refl _ _)
  have hsz : lo ≤ (w.setCell ⟨g, 0, none⟩ (.slice (some ⟨q, 0, none⟩) k cap)).heap.size := by rw [World.size_setCell]; exact HLQ.out
  have b1 := below_alloc1 (w.setCell ⟨g, 0, none⟩ (.slice (some ⟨q, 0, none⟩) k cap)) (.cells #[.int .i64 s, .int .i32 z] 75)
  have b2 := b1.alloc b1.size (.cells #[.int .i64 s, .int .i32 z] 75)
  exact bodyPost_ret (v := .agg #[.int .i64 s, .int .i32 z]) (by simp [results, Try.results96, go_sem]) rfl ⟨s, z, rfl, e1, e2.below b2, e3.trans (b2.mono hsz), only_trans (only_setCell (World.grownBy.refl _ _) (.inl rfl) _) (only_of_below b2 (some g))⟩
/-- The top of a stack is taken. -/
theorem pop_last (lo g : Nat) (xs : List (Int × Int)) (s z : Int) (hx : xs.length ≤ 1000) (w : World) (hS : StackAt w lo g (xs ++ [(s, z)])) :
    Calls Try.prog 96 #[.pointer (some ⟨g, 0, none⟩)] w fun e w' => e = .returned (.agg #[.int .i64 s, .int .i32 z]) ∧ StackAt w' lo g xs ∧ Below lo w w' ∧ w.grownBy w' (some g) := by
  have ht : (xs ++ [(s, z)]).take xs.length = xs := by simp
  refine (pop_any lo g (xs ++ [(s, z)]) xs.length (by simp) hx w hS).mono ?_
  rintro e w' ⟨s2, z2, rfl, h1, h2, h3, h4⟩
  rw [ht] at h1 h2
  have h5 := List.append_cancel_left h1
  injection h5 with h5 _
  injection h5 with h5 h6
  subst h5 h6
  exact ⟨rfl, h2, h3, h4⟩
end Go.Proofs.Ytlkkobffgbjkpaa
