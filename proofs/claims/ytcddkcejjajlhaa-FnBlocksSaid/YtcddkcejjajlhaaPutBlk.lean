/-
  A block is put into a store: the program's way, by copy and clear.
-/
import Derived.Test.YtcddkcejjajlhaaBlockOf
import Derived.Laws.CopyOwn
namespace Go.Proofs.Ytcddkcejjajlhaa
open Go.RowKit Go

/-- 'clear(s)', s in a row that is known whole. -/
theorem run_clear_row {P : Program} (w : World) (t e ty : TypeId) (z : Value) (ht : P.underlying t = some (.slice e)) (hv : ∀ w, (zeroValue e).run P w = .ok z w) (hz : z.cells = #[z]) (h1 : z.oneCell' = true)
    (g o n c : Nat) (cur : Array Value) (t' : TypeId) (hg : w.heap[g]? = some (.cells cur t' (0, 0))) (hn : 0 < n) (hfit : o + n ≤ cur.size) :
    (Builtin.clear_ #[t] ty #[.slice (some ⟨g, o, none⟩) n c]).run P w = .ok (.tuple #[]) (w.setRow g (cur.toList.take o ++ List.replicate n z ++ cur.toList.drop (o + n)).toArray) := by
  have hzc : (Builtin.zeroCells z.cells n).toList = List.replicate n z := by
    rw [hz]
    simp [Builtin.zeroCells]
    apply List.ext_getElem
    · simp
    · intro i h1 h2
      simp [Nat.mod_one]
  have hst := run_storeCells_at P g o t' (List.replicate n z) 0 cur w hg (by simpa using hfit) (fun v hv' => by rw [List.eq_of_mem_replicate hv']; exact h1)
  simp only [Nat.add_zero, List.length_replicate] at hst
  obtain ⟨m, rfl⟩ : ∃ m, n = m + 1 := ⟨n - 1, by omega⟩
  simp [Builtin.clear_, run_underlying ht, hv, hzc, hst]
theorem only_setRow (w : World) (g : Nat) (cs : Array Value) : w.grownBy (w.setRow g cs) (some g) :=
  ⟨rfl, rfl, rfl, by simp [World.setRow], fun i _ hne => setRow_other w g i cs (fun e => hne (by rw [e]))⟩
/-- The cells of what can be read, as a copy asks for them. -/
theorem rd_src {w : World} {sp : Option Addr} {n c : Nat} {ys : List Nat} (h : RdN w (.slice sp n c) ys) (hp : 0 < ys.length) : ∃ ad, sp = some ad ∧ ∀ j v, (ys.map u32v)[j]? = some v → w.cell? (ad.add j) = some v := by
  obtain ⟨a, d, e⟩ := rd_some h hp
  injection e with e1
  subst e1
  exact ⟨a, rfl, cells_of_rd h⟩
theorem wpList_clear_splice {P : Program} {w : World} {ops : Array Oper} {rest : List Oper} {o : Oper} {a : Act} {Q : Exit → Act → World → Prop} (hgd : o.guard = none) (d : Operand) (dT : TypeId)
    (ho : o.op = .call { callee := .builtin .clear, args := #[d], argTypes := #[dT] }) (elem : TypeId) (hu : P.underlying dT = some (.slice elem)) (z : Value) (hv : ∀ w, (zeroValue elem).run P w = .ok z w) (hz : z.cells = #[z]) (h1 : z.oneCell' = true)
    (dp : Option Addr) (n c : Nat) (hd : a.eval d = .slice dp n c) (g off : Nat) (cur : List Value) (t : TypeId) (hg : w.heap[g]? = some (.cells cur.toArray t (0, 0)))
    (hpos : 0 < n → dp = some ⟨g, off, none⟩) (hfit : off + n ≤ cur.length)
    (h : ∀ w', Hid (w'.heap[g]? = some (.cells (splice cur off (List.replicate n z)).toArray t (0, 0))) → Hid (w.grownBy w' (some g)) → wpList P ops Q rest (a.put o.dst (.tuple #[])) w') :
    wpList P ops Q (o :: rest) a w := by
  by_cases h0 : n = 0
  · subst h0
    refine wpList_plain hgd fun K hK => ?_
    have hrun : (Builtin.clear_ #[dT] o.type #[.slice dp 0 c]).run P w = .ok (.tuple #[]) w := by
      cases dp <;> simp [Builtin.clear_, run_underlying hu]
    unfold Oper.wp
    simp [execOp, ho, resolve, invoke, builtin, hd, hrun, Result.andThen]
    exact hK _ _ (h w (show _ = _ by simpa [splice] using hg) (World.grownBy.refl w _))
  · have hn : 0 < n := by omega
    obtain rfl := hpos hn
    refine wpList_plain hgd fun K hK => ?_
    have hrun := run_clear_row (P := P) w dT elem o.type z hu hv hz h1 g off n c cur.toArray t hg hn (by simpa using hfit)
    unfold Oper.wp
    simp [execOp, ho, resolve, invoke, builtin, hd, hrun, Result.andThen]
    exact hK _ _ (h _ (show _ = _ by simpa [splice] using setRow_heap w g _ _ t _ hg) (only_setRow w g _))
/-- 'copy(d, s)', d in a row that is known whole: only that row changes. -/
theorem wpList_copy_only {P : Program} {w : World} {ops : Array Oper} {rest : List Oper} {o : Oper} {a : Act} {Q : Exit → Act → World → Prop} (hgd : o.guard = none) (d s : Operand) (dT sT : TypeId)
    (ho : o.op = .call { callee := .builtin .copy, args := #[d, s], argTypes := #[dT, sT] }) (elem : TypeId) (hu : P.underlying dT = some (.slice elem)) (hsz : (P.info? elem).map (·.size) = some 1)
    (dp sp : Option Addr) (dLen dCap sLen sCap : Nat) (hd : a.eval d = .slice dp dLen dCap) (hs : a.eval s = .slice sp sLen sCap)
    (g off : Nat) (cur : List Value) (t : TypeId) (hg : w.heap[g]? = some (.cells cur.toArray t (0, 0))) (cs : List Value) (hn : cs.length = Nat.min sLen dLen)
    (hpos : 0 < cs.length → dp = some ⟨g, off, none⟩ ∧ ∃ ad, sp = some ad ∧ ∀ j v, cs[j]? = some v → w.cell? (ad.add j) = some v)
    (hfit : off + cs.length ≤ cur.length) (h1 : ∀ v ∈ cs, v.oneCell' = true)
    (h : ∀ w', Hid (w'.heap[g]? = some (.cells (splice cur off cs).toArray t (0, 0))) → Hid (w.grownBy w' (some g)) → wpList P ops Q rest (a.put o.dst (goInt cs.length)) w') :
    wpList P ops Q (o :: rest) a w := by
  by_cases h0 : cs.length = 0
  · obtain rfl : cs = [] := List.eq_nil_of_length_eq_zero h0
    refine wpList_copy_nothing hgd d s dT sT ho elem hu hsz dp sp dLen dCap sLen sCap hd hs (by simpa using hn.symm) ?_
    exact h w (show _ = _ by simpa [splice] using hg) (World.grownBy.refl w _)
  · obtain ⟨rfl, ad, rfl, hsrc⟩ := hpos (by omega)
    refine wpList_copy_own hgd d s dT sT ho elem hu hsz g off dLen dCap ad sLen sCap hd hs cur.toArray t hg cs hn hsrc (by simpa using hfit) h1 ?_
    exact h _ (show _ = _ by simpa [splice] using setRow_heap w g _ _ t _ hg) (only_setRow w g _)
theorem zero_u32 (w : World) : (zeroValue 43).run Try.prog w = .ok (.int .u32 0) w := by kernel_rfl

theorem splice_app {α : Type} (X R cs : List α) (off : Nat) (h : off + cs.length ≤ X.length) : splice (X ++ R) off cs = splice X off cs ++ R := by
  unfold splice
  rw [List.take_append_of_le_length (by omega), List.drop_append_of_le_length h, List.append_assoc, List.append_assoc]
theorem splice_two {α : Type} (X Y Z : List α) (a : Nat) (h : a + Y.length + Z.length ≤ X.length) : splice (splice X a Y) (a + Y.length) Z = X.take a ++ Y ++ Z ++ X.drop (a + Y.length + Z.length) := by
  have h1 : (X.take a ++ Y).length = a + Y.length := by rw [List.length_append, List.length_take]; omega
  unfold splice
  rw [← List.append_assoc (X.take a) Y, List.take_left' h1, List.drop_append, h1, List.drop_eq_nil_of_le (by rw [h1]; omega), List.nil_append, List.drop_drop, ← List.append_assoc]
  congr 2
  omega
theorem put_splice {cur : List Value} {xs ys : List Nat} {k : Nat} (ht : cur.take xs.length = xs.map u32v) (hk : 64 * k + 64 ≤ xs.length) (hm : ys.length ≤ 64) :
    (splice (splice cur (64 * k) (ys.map u32v)) (64 * k + ys.length) (List.replicate (64 - ys.length) (.int .u32 0))).take xs.length = (putL xs k ys).map u32v := by
  obtain ⟨R, hR⟩ : ∃ R, cur = xs.map u32v ++ R := ⟨cur.drop xs.length, by rw [← ht, List.take_append_drop]⟩
  have hy : (ys.map u32v).length = ys.length := List.length_map ..
  rw [hR, splice_app _ _ _ _ (by rw [hy, List.length_map]; omega), splice_app _ _ _ _ (by rw [length_splice _ _ _ (by rw [hy, List.length_map]; omega), List.length_replicate, List.length_map]; omega)]
  have e := splice_two (xs.map u32v) (ys.map u32v) (List.replicate (64 - ys.length) (.int .u32 0)) (64 * k) (by rw [hy, List.length_replicate, List.length_map]; omega)
  rw [hy] at e
  rw [e, List.length_replicate, show 64 * k + ys.length + (64 - ys.length) = 64 * k + 64 by omega]
  have hz : List.replicate (64 - ys.length) (Value.int .u32 0) = (List.replicate (64 - ys.length) 0).map u32v := by simp [u32v]
  have e2 : (xs.map u32v).take (64 * k) ++ ys.map u32v ++ List.replicate (64 - ys.length) (.int .u32 0) ++ (xs.map u32v).drop (64 * k + 64) = (putL xs k ys).map u32v := by
    rw [putL_eq hm, hz, ← List.map_take, ← List.map_drop]
    unfold padL
    simp
  rw [e2, List.take_left' (by rw [List.length_map, putL_len hk hm])]

def putOk (n : Nat) (b : Int) (m : Nat) : Bool := hasB n b && decide (m ≤ 64)
def putC (l : List Nat) (b : Int) (cells : List Nat) : List Nat := if putOk l.length b cells.length = true then putL l b.toNat cells else []
abbrev pairSV (b : Bool) (v : Value) : Value := .tuple #[stA v, .bool b]

set_option maxHeartbeats 1000000 in
theorem impl_putblock_no1 (v u : Value) (xs ys : List Nat) (b : Int) (w : World) (hr : RdN w v xs) (hy : RdN w u ys) (hb : hasB xs.length b = false) : Calls Try.prog 23 #[stA v, .int .i64 b, u] w (NewR (pairSV (putOk xs.length b ys.length)) w (putC xs b ys)) := by
  have e : putOk xs.length b ys.length = false := by unfold putOk; rw [hb, Bool.false_and]
  have e2 : putC xs b ys = [] := if_neg (by rw [e]; decide)
  rw [e, e2]
  obtain ⟨A, c, rfl⟩ := hr.form
  obtain ⟨B, d, rfl⟩ := hy.form
  have HH := Lib.hid (fun W => impl_has A xs.length c hr.small b W)
  rw [hb] at HH
  clear hr hy hb e e2
  go_enter Try.func23, Try.ntmps23
  go_wp2_with fail
  refine (HH.out _).mono ?_
  rintro e w1 ⟨rfl, hb1⟩
  obtain ⟨k1, k2, hB, hz⟩ := boxes2 hb1
  have c2 : _ = some _ := k2.cell 0
  have f2 := k2.frozen 0
  have HB := Lib.hid hB
  have K2 := Lib.hid k2
  clear hb1 HH k1 k2 hB
  go_wp2_with fail
  have e0 : _ = some _ := (st_blk K2.out (.slice none 0 0)).cell 0
  exact bodyPost_ret (v := pairSV false (.slice none 0 0)) (by simp [results, Try.results23, e0, go_sem]) rfl (newr_none (HB.out.setCell (by simp) _))

set_option maxHeartbeats 1000000 in
theorem impl_putblock_no2 (v u : Value) (xs ys : List Nat) (b : Int) (w : World) (hr : RdN w v xs) (hy : RdN w u ys) (hb : hasB xs.length b = true) (hm : 64 < ys.length) : Calls Try.prog 23 #[stA v, .int .i64 b, u] w (NewR (pairSV (putOk xs.length b ys.length)) w (putC xs b ys)) := by
  have e : putOk xs.length b ys.length = false := by unfold putOk; rw [decide_eq_false (by omega), Bool.and_false]
  have e2 : putC xs b ys = [] := if_neg (by rw [e]; decide)
  rw [e, e2]
  obtain ⟨A, c, rfl⟩ := hr.form
  obtain ⟨B, d, rfl⟩ := hy.form
  have HH := Lib.hid (fun W => impl_has A xs.length c hr.small b W)
  rw [hb] at HH
  have hm2 : (64 : Int) < (ys.length : Int) := by omega
  clear hr hy hb e e2 hm
  go_enter Try.func23, Try.ntmps23
  go_wp2_with fail
  refine (HH.out _).mono ?_
  rintro e w1 ⟨rfl, hb1⟩
  obtain ⟨k1, k2, hB, hz⟩ := boxes2 hb1
  have c2 : _ = some _ := k2.cell 0
  have f2 := k2.frozen 0
  have HB := Lib.hid hB
  have K2 := Lib.hid k2
  clear hb1 HH k1 k2 hB
  go_wp2_with fail
  have e0 : _ = some _ := (st_blk K2.out (.slice none 0 0)).cell 0
  exact bodyPost_ret (v := pairSV false (.slice none 0 0)) (by simp [results, Try.results23, e0, go_sem]) rfl (newr_none (HB.out.setCell (by simp) _))

set_option maxHeartbeats 2000000 in
theorem impl_putblock_yes (v u : Value) (xs ys : List Nat) (k : Nat) (w : World) (hr : RdN w v xs) (hy : RdN w u ys) (hb : hasB xs.length (k : Int) = true) (h3 : 64 * k + 64 ≤ xs.length) (hx : xs.length ≤ 768) (hm : ys.length ≤ 64) : Calls Try.prog 23 #[stA v, .int .i64 (k : Int), u] w (NewR (pairSV true) w (putL xs k ys)) := by
  obtain ⟨A, c, rfl⟩ := rd_some hr (by omega)
  obtain ⟨B, d, rfl⟩ := hy.form
  have HH := Lib.hid (fun W => impl_has (some A) xs.length c hr.small (k : Int) W)
  rw [hb] at HH
  have hm2 : (ys.length : Int) ≤ 64 := by omega
  have HC := Lib.hid (fun W (hbl : Below w.heap.size w W) => clone_any32 _ xs (by omega) W (hr.below hbl))
  have HY := Lib.hid (fun W (hbl : Below w.heap.size w W) => hy.below hbl)
  clear hr hy hb
  go_enter Try.func23, Try.ntmps23
  go_wp2_with fail
  refine (HH.out _).mono ?_
  rintro e w1 ⟨rfl, hb1⟩
  obtain ⟨k1, k2, hB, hz⟩ := boxes2 hb1
  have c1 : _ = some _ := k1.cell 0
  have HB := Lib.hid hB
  have K2 := Lib.hid k2
  clear hb1 HH k1 k2 hB
  go_wp2_with fail
  refine (HC.out _ HB.out).mono ?_
  rintro e w2 ⟨v2, rfl, hown, hb2⟩
  obtain ⟨g, cap, cur, rfl, hrow⟩ := own_row hown (by omega)
  have hlt := hrow.lt
  have hne : g ≠ w2.heap.size := by omega
  have hcp := hrow.le
  have HR := Lib.hid hrow
  have HB2 := Lib.hid (HB.out.trans (hb2.mono HB.out.size))
  have K3 := Lib.hid (K2.out.below hb2 (by omega))
  clear hown hb2 HC HB K2 c1 hrow
  have HI := impl_blockin ⟨g, 0, none⟩ xs.length cap k hcp (by omega) h3 (w2.alloc (.cells #[.slice (some ⟨g, 0, none⟩) xs.length cap] 26))
  rw [addr_lit, Nat.zero_add] at HI
  have HI := Lib.hid HI
  go_wp2_with fail
  refine HI.out.mono ?_
  rintro e w3 ⟨rfl, hb3⟩
  obtain ⟨k8, hB3, hz3⟩ := boxes1 hb3
  have HB3 := Lib.hid (HB2.out.trans (hB3.mono HB2.out.size))
  have hg3 : w3.heap[g]? = some (.cells cur.toArray 43 (0, 0)) := (hB3.block g hlt).trans HR.out.row
  have HG3 := Lib.hid hg3
  have HY3 := Lib.hid (HY.out w3 HB3.out)
  have K8 := Lib.hid k8
  have K3b := Lib.hid (K3.out.below hB3 K3.out.lt)
  have hcl : cur.length = cap := HR.out.len
  have hgb : w.heap.size + 1 < g := by have := HR.out.base; omega
  clear hb3 hg3 HI HY k8 K3 hB3
  go_wp2_with (first
    | (refine wpList_copy_only rfl (.tmp 28) (.tmp 29) 24 24 rfl 43 Try.underlying24 (by kernel_rfl) _ _ _ _ _ _ rfl rfl g (64 * k) cur 43 HG3.out (ys.map u32v) (by rw [List.length_map]; show _ = min ys.length 64; omega) (fun h => ⟨rfl, rd_src HY3.out (by simpa using h)⟩) (by rw [List.length_map]; omega) (one_u32 ys) ?_; intro w4 HG4 HO4)
    | (refine wpList_clear_splice rfl (.tmp 31) 24 rfl 43 Try.underlying24 (.int .u32 0) zero_u32 rfl rfl _ _ _ rfl g (64 * k + ys.length) (splice cur (64 * k) (ys.map u32v)) 43 HG4.out (by intro h; simp; omega) (by rw [length_splice _ _ _ (by simp; omega)]; omega) ?_; intro w5 HG5 HO5; have k8 := (K8.out.grown HO4.out (fun e => by injection e with e; omega)).grown HO5.out (fun e => by injection e with e; omega); have c8 : _ = some _ := k8.cell 0; have k3 := (K3b.out.grown HO4.out (fun e => by injection e with e; omega)).grown HO5.out (fun e => by injection e with e; omega); have c3 : _ = some _ := k3.cell 0; have f3 := k3.frozen 0; have K5 := Lib.hid k3; clear k8 k3))
  all_goals
    have e0 : _ = some _ := (st_blk K5.out (.slice (some ⟨g, 0, none⟩) xs.length cap)).cell 0
    have hl2 := putL_len (cells := ys) h3 hm
    have ho : w5.ownsRow w1.heap.size 43 1 (.slice (some ⟨g, 0, none⟩) xs.length cap) xs.length ((putL xs k ys).map u32v) :=
      RowIs.own ⟨HR.out.base, HG5.out, hcp, HR.out.max, by rw [length_splice _ _ _ (by rw [length_splice _ _ _ (by rw [List.length_map]; omega), List.length_replicate]; omega), length_splice _ _ _ (by rw [List.length_map]; omega)]; exact hcl, put_splice HR.out.take h3 hm⟩ (by rw [List.length_map]; exact hl2)
    rw [← hl2] at ho
    have hb5 := (HB3.out.grown HO4.out HB3.out.size (fun j hj => by injection hj with hj; omega)).grown HO5.out (by have := HB3.out.size; have := HO4.out.size; omega) (fun j hj => by injection hj with hj; omega)
    exact bodyPost_ret (v := pairSV true (.slice (some ⟨g, 0, none⟩) xs.length cap)) (by simp [results, Try.results23, e0, go_sem]) rfl
      ⟨_, by rw [hl2], (own_put ho (by show w.heap.size + 1 < w1.heap.size; omega) _).mono (by omega), hb5.setCell (by simp) _⟩

theorem put_yes {n m k : Nat} (hb : hasB n (k : Int) = true) (hm : m ≤ 64) : putOk n (k : Int) m = true := by unfold putOk; rw [hb, decide_eq_true hm]; rfl
theorem putC_yes {xs ys : List Nat} {k : Nat} (h : putOk xs.length (k : Int) ys.length = true) : putC xs (k : Int) ys = putL xs k ys := by unfold putC; rw [if_pos h]; rfl
theorem impl_putblock (v u : Value) (xs ys : List Nat) (b : Int) (w : World) (hr : RdN w v xs) (hy : RdN w u ys) : Calls Try.prog 23 #[stA v, .int .i64 b, u] w (NewR (pairSV (putOk xs.length b ys.length)) w (putC xs b ys)) := by
  by_cases hb : hasB xs.length b = true
  · by_cases hm : ys.length ≤ 64
    · obtain ⟨k, rfl, h1, h2, h3⟩ := hasB_some hb
      rw [putC_yes (put_yes hb hm), put_yes hb hm]
      exact impl_putblock_yes v u xs ys k w hr hy hb h3 h2 hm
    · exact impl_putblock_no2 v u xs ys b w hr hy hb (by omega)
  · exact impl_putblock_no1 v u xs ys b w hr hy (by simpa using hb)
end Go.Proofs.Ytcddkcejjajlhaa
