/-
  spec.l11Trees.
  spec.DefsOk.
-/
import Derived.Test.YtofikgjoiidhmaaCO9
import Derived.Test.YtofikgjoiidhmaaCO6
import Derived.Test.YtofikgjoiidhmaaCO3
import Derived.Test.YtofikgjoiidhmaaCO4
import Derived.Deep.RegionHeld3
import Derived.Test.YtofikgjoiidhmaaCO2
import Derived.Handy
import Derived.IntWalk
namespace Go.Proofs.Ytofikgjoiidhmaa
open Go.RowKit Go

/-- A row has grown: no other old block has changed, and it lies where it lay or in new memory. -/
def Gr (w w' : World) (u u' : Value) : Prop := w.grownBy w' u.ownBlock ∧ ∀ k, u'.ownBlock = some k → u.ownBlock = some k ∨ w.heap.size ≤ k
theorem Gr.refl (w : World) (u : Value) : Gr w w u u := ⟨World.grownBy.refl _ _, fun _ h => .inl h⟩
theorem Gr.trans {a b c : World} {u v x : Value} (h : Gr a b u v) (k : Gr b c v x) : Gr a c u x := by
  refine ⟨⟨k.1.os.trans h.1.os, k.1.tape.trans h.1.tape, k.1.output.trans h.1.output, Nat.le_trans h.1.size k.1.size, fun i hi hn => (k.1.block i (Nat.lt_of_lt_of_le hi h.1.size) (fun e => ?_)).trans (h.1.block i hi hn)⟩, fun i hi => ?_⟩
  · rcases h.2 i e.symm with h2 | h2
    · exact hn h2.symm
    · omega
  · rcases k.2 i hi with h2 | h2
    · exact h.2 i h2
    · exact .inr (Nat.le_trans h.1.size h2)
theorem Gr.app {w w' : World} {u u' : Value} {n m : Nat} (h : AppAlt w w' u u' n m) : Gr w w' u u' := ⟨h.grown, appalt_where h⟩
theorem Gr.below {w w' : World} {u : Value} (h : Below w.heap.size w w') : Gr w w' u u := ⟨only_of_below h _, fun _ h => .inl h⟩
theorem Gr.row {w w' : World} {u u' v : Value} {base size n : Nat} {e : TypeId} {xs : List Value} (h : Gr w w' u u') (ho : w.ownsRow base e size v n xs) (hne : ∀ k, v.ownBlock = some k → u.ownBlock ≠ some k) : w'.ownsRow base e size v n xs :=
  row_sameM ho (fun k hk => h.1.block k (World.ownsRow.lt ho k hk).2 (fun e => hne k hk e.symm))
theorem PartsT.kept {w w' : World} {base : Nat} {v : Value} {xs : List Tr} {S : Nat → Prop} {f : Nat → Value} {bs : Nat → Nat → Prop} (h : PartsT w base v xs S f bs) (hz : w.heap.size ≤ w'.heap.size) (hk : ∀ g, S g → w'.heap[g]? = w.heap[g]?) : PartsT w' base v xs S f bs :=
  ⟨row_sameM h.row fun g hg => hk g (h.sub g (.inl hg)), fun i hi => (h.kids i hi).kept hz (fun g hg => hk g (h.sub g (.inr ⟨i, hi, hg⟩))), h.d1, h.d2, h.sub, fun g hg => ⟨(h.bound g hg).1, Nat.lt_of_lt_of_le (h.bound g hg).2 hz⟩⟩
theorem PartsT.item {w : World} {base : Nat} {v : Value} {xs : List Tr} {S : Nat → Prop} {f : Nat → Value} {bs : Nat → Nat → Prop} (h : PartsT w base v xs S f bs) {i : Nat} (hi : i < xs.length) : ∃ g cap B m bc, v = .slice (some ⟨g, 0, none⟩) xs.length cap ∧ g < w.heap.size ∧ w.cell? ⟨g, i * 3, none⟩ = some (.int .i64 xs[i].k) ∧ w.cell? ⟨g, i * 3 + 1, none⟩ = some (.int .i32 xs[i].n) ∧ w.cell? ⟨g, i * 3 + 2, none⟩ = some (.slice B m bc) ∧ f i = .slice B m bc := by
  obtain ⟨g, cap, rfl, hc, hg, -⟩ := own_posM h.row (by omega)
  have h3 := trv_get (f := f) (i0 := 0) hi
  rw [Nat.zero_add] at h3
  obtain ⟨B, bc, hf⟩ := (h.kids i hi).rd.form
  exact ⟨g, cap, B, _, bc, rfl, hg, (h.row.cellAt (i * 3) (by omega)).trans h3.1, (h.row.cellAt (i * 3 + 1) (by omega)).trans h3.2.1, by rw [(h.row.cellAt (i * 3 + 2) (by omega)).trans h3.2.2, hf], hf⟩
theorem wp_append_src {P : Program} {o : Oper} {a : Act} {w : World} {K : Act → World → Prop} {Q : Exit → Act → World → Prop} (s x : Operand) (t : TypeId)
    (ho : o.op = .call { callee := .builtin .append, args := #[s, x], argTypes := #[t, t] })
    (base : Nat) (e : TypeId) (i : TypeInfo) (z : Value) (size bytes : Nat) (ht : P.underlying t = some (.slice e)) (hi : P.info? e = some i) (hz : i.zero = some z)
    (hsize : i.size = size) (hby : i.bytes = bytes) (hzs : z.cells.size = size) (hsz : 0 < size)
    (v : Value) (n : Nat) (xs : List Value) (hs : a.eval s = v) (hown : w.ownsRow base e size v n xs)
    (u : Value) (m : Nat) (ys : List Value) (hx : a.eval x = u) (hsrc : SrcAt w size u m ys) (h1 : ∀ x ∈ ys, x.oneCell' = true)
    (h63 : n + m ≤ maxLen) (hbytes : (n + m) * bytes ≤ 140737488355328) (hbase : base ≤ w.heap.size)
    (h : ∀ v' w', w'.ownsRow base e size v' (n + m) (xs ++ ys) → Hid (AppAlt w w' v v' n m) → K (a.put o.dst v') w') : o.wp P a w K Q := by
  obtain ⟨v', w', hrun, h2, h3⟩ := run_append_alt (P := P) base t o.type e i z size bytes ht hi hz hsize hby hzs hsz v n xs hown u m ys hsrc h1 h63 hbytes hbase
  unfold Oper.wp
  simp [execOp, ho, resolve, invoke, builtin, hs, hx, hrun, Result.andThen]
  exact h v' w' h2 (Lib.hid h3)
/-- How l11Trees ends. -/
def CodeT9 (base : Nat) (w : World) (u : Value) (F : List (Int × Int)) (e : Ending) (w' : World) : Prop := ∃ u', e = .returned u' ∧ w'.ownsRow base 55 2 u' F.length (cdv F) ∧ Gr w w' u u'
theorem lf_kind {k n : Int} {c : List Tr} (h : (Tr.mk k n c).lf = true) : k = 0 ∨ k = 1 ∨ k = 2 ∨ k = 6 ∨ k = 8 ∨ (k = 3 ∨ k = 4) := by
  rw [Tr.lf] at h
  split at h
  · omega
  · rw [Bool.and_eq_true, decide_eq_true_eq] at h
    omega
theorem drop_step {xs : List Tr} {i : Nat} (h : i < xs.length) : xs.drop i = xs[i] :: xs.drop (i + 1) := List.drop_eq_getElem_cons h
theorem exit_drop {xs : List Tr} {i : Nat} : exitB (xs.drop i) = decide ((xs[i]?.map Tr.k) = some 8) := by
  by_cases h : i < xs.length
  · rw [drop_step h, exitB, List.getElem?_eq_getElem h]
    simp
  · rw [List.drop_of_length_le (by omega), List.getElem?_eq_none (by omega)]
    simp [exitB]
theorem lf_leaf {k n : Int} {c : List Tr} (h : (Tr.mk k n c).lf = true) (hk : k = 0 ∨ k = 1 ∨ k = 2 ∨ k = 8) : c = [] := by
  rw [Tr.lf, if_neg (by omega), Bool.and_eq_true, List.isEmpty_iff] at h
  exact h.2
theorem lfL_drop {xs : List Tr} (h : lfL xs = true) (i : Nat) : lfL (xs.drop i) = true := by
  induction xs generalizing i with
  | nil => simpa using h
  | cons t r ih =>
    cases i with
    | zero => exact h
    | succ i =>
      rw [lfL, Bool.and_eq_true] at h
      exact ih h.2 i
/-- The list grows by what a tree makes; what the others make follows. -/
theorem code_next {tail : Bool} {st : Nat → Int} {xs : List Tr} {i : Nat} (h : i < xs.length) (hlf : xs[i].lf = true) {lc F : List (Int × Int)} (hF : lc ++ (codeL tail false lc.length (xs.drop i)).map (resC st) = F) (hnc : (tail && (decide (xs[i].k = 2) && exitB (xs.drop (i + 1)))) = false) : (lc ++ (codeT tail false (exitB (xs.drop (i + 1))) lc.length xs[i]).map (resC st)) ++ (codeL tail false (lc ++ (codeT tail false (exitB (xs.drop (i + 1))) lc.length xs[i]).map (resC st)).length (xs.drop (i + 1))).map (resC st) = F := by
  rw [drop_step h, codeL, List.map_append] at hF
  have hl := codeT_len xs[i] hlf tail false (exitB (xs.drop (i + 1))) lc.length
  rw [List.length_append, List.length_map, hl, List.append_assoc]
  have hp := codeL_pc (tail := tail) (pc := decide (xs[i].k = 2)) (a := lc.length + wideT tail false xs[i]) (ts := xs.drop (i + 1))
  by_cases h2 : xs[i].k = 2
  · rw [decide_eq_true h2, Bool.true_and] at hnc
    have := hp (by cases tail; exact .inr rfl; exact .inl (by simpa using hnc))
    rw [this.1] at hF
    exact hF
  · rw [decide_eq_false h2] at hF
    exact hF
theorem code_tail {st : Nat → Int} {xs : List Tr} {i : Nat} (h : i + 1 < xs.length) (h2 : xs[i].k = 2) (h8 : xs[i + 1].k = 8) (hlf : xs[i].lf = true) {lc F : List (Int × Int)} (hF : lc ++ (codeL true false lc.length (xs.drop i)).map (resC st) = F) : (lc ++ [(3, st xs[i].n.toNat)]) ++ (codeL true false (lc ++ [(3, st xs[i].n.toNat)]).length (xs.drop (i + 2))).map (resC st) = F := by
  rw [drop_step (show i < xs.length by omega), drop_step h] at hF
  obtain ⟨t, ht⟩ : ∃ t, xs[i]'(by omega) = t := ⟨_, rfl⟩
  obtain ⟨t8, ht8⟩ : ∃ t, xs[i + 1] = t := ⟨_, rfl⟩
  rw [ht] at h2 hF hlf ⊢
  rw [ht8] at h8 hF
  obtain ⟨k, n, c⟩ := t
  obtain ⟨k8, n8, c8⟩ := t8
  simp only [Tr.k] at h2 h8
  subst h2 h8
  have hc := lf_leaf hlf (by omega)
  subst hc
  rw [← hF]
  simp [codeL, codeT, exitB, Tr.k, Tr.n, resC, wideT, wideL]
set_option maxRecDepth 100000 in
set_option maxHeartbeats 16000000 in
theorem spec_trees (tail : Bool) (sts : List Int) (hsl : sts.length ≤ 24) : ∀ (M : Nat) (ts : List Tr), sizeL ts < M → sizeL ts ≤ 2000 → lfL ts = true → (∀ o ∈ flatL ts, OpFit sts.length o) → ∀ (base b b2 : Nat) (l F : List (Int × Int)) (u v sv : Value) (S : Nat → Prop) (w : World), base ≤ w.heap.size → F = l ++ (codeL tail false l.length ts).map (resC (fun k => sts.getD k 0)) → F.length ≤ 1500 →
    w.ownsRow base 55 2 u l.length (cdv l) → OwnT w b v ts S → (∀ k, S k → u.ownBlock ≠ some k) → w.ownsRow b2 3 1 sv sts.length (sts.map lv) →
    Calls Try.prog 25 #[u, v, sv, .bool tail] w (CodeT9 base w u F) := by
  intro M
  induction M with
  | zero => intro ts h; omega
  | succ M ih =>
    intro ts hM hz2 hlf hfit base b b2 l F u v sv S w hbase hFd hF15 hu hT hSd hs
    obtain ⟨f, bs, hP⟩ := hT.parts
    obtain ⟨A0, c0, rfl⟩ := own_formM hu
    obtain ⟨Av, cv, rfl⟩ := own_formM hP.row
    obtain ⟨As, cs, rfl⟩ := own_formM hs
    have hlN : ts.length ≤ 2000 := Nat.le_trans (sizeL_len ts) hz2
    have HIH := Lib.hid (fun i (hi : i < ts.length) => ih ts[i].kids (by have := sizeL_get hi; omega) (by have := sizeL_get hi; omega))
    have HWD := Lib.hid (fun i (hi : i < ts.length) => spec_wide tail (sizeL ts[i].kids + 1) ts[i].kids (by omega) (by have := sizeL_get hi; omega))
    have HKS4 := Lib.hid (fun i (hi : i < ts.length) => (show wideL tail false ts[i].kids ≤ 4000 from by have := wideL_size ts[i].kids tail false; have := sizeL_get hi; omega))
    have HLF := Lib.hid (fun i (hi : i < ts.length) => lfL_get hi hlf)
    have HFT := Lib.hid (fun i (hi : i < ts.length) o (ho : o ∈ flatT ts[i]) => hfit o (by
      have e : ts = ts.take i ++ ts[i] :: ts.drop (i + 1) := by rw [← List.drop_eq_getElem_cons hi, List.take_append_drop]
      rw [e, flatL_app, flatL]
      exact List.mem_append_right _ (List.mem_append_left _ ho)))
    have HPW := Lib.hid (fun W x (h : Gr w W (.slice A0 l.length c0) x) => hP.kept h.1.size (fun g hg => h.1.block g (hP.bound g hg).2 (fun e => hSd g hg e.symm)))
    have HSW := Lib.hid (fun W x (h : Gr w W (.slice A0 l.length c0) x) => h.row hs (types_neM hs hu (by decide)))
    have HSX : Hid (∀ g, S g → g < w.heap.size) := Lib.hid (fun g hg => (hP.bound g hg).2)
    have HSD := Lib.hid hSd
    have HSUB := Lib.hid hP.sub
    have HBASE := Lib.hid hbase
    have R0 : Hid (w.ownsRow base 55 2 (.slice A0 l.length c0) l.length (cdv l)) := Lib.hid hu
    have E0 : Hid (l ++ (codeL tail false l.length (ts.drop 0)).map (resC (fun k => sts.getD k 0)) = F) := Lib.hid (by rw [List.drop_zero]; exact hFd.symm)
    have G0 := Lib.hid (Gr.refl w (.slice A0 l.length c0))
    have HRS : Hid (sts.length ≤ 24) := Lib.hid hsl
    have HFL : Hid (∀ lc : List (Int × Int), ∀ i, lc ++ (codeL tail false lc.length (ts.drop i)).map (resC (fun k => sts.getD k 0)) = F → lc.length ≤ 1500) := Lib.hid (fun lc i h => by have := congrArg List.length h; simp at this; omega)
    obtain ⟨N, hN⟩ : ∃ N, ts.length = N := ⟨_, rfl⟩
    have HN := Lib.hid hN
    obtain ⟨K, hK⟩ : ∃ K, sts.length = K := ⟨_, rfl⟩
    have HK := Lib.hid hK
    obtain ⟨NL, hNL⟩ : ∃ NL, l.length = NL := ⟨_, rfl⟩
    have HNL := Lib.hid hNL
    rw [hN] at hlN HPW ⊢
    rw [hK] at HSW ⊢
    rw [hNL] at HPW HSW R0 G0 ⊢
    have HSD2 : Hid (∀ k, S k → (Value.slice A0 NL c0).ownBlock ≠ some k) := Lib.hid (by have := HSD.out; rw [hNL] at this; exact this)
    obtain ⟨i0, hi0, hz0, hz1, hzb⟩ := info_parts infoIc
    clear ih hM hz2 hlf hfit hbase hFd hu hT hSd hs hP hN hK hNL hsl HSD
    go_enter Try.func25, Try.ntmps25
    go_wp2_with fail
    go_loopw [0, 9] (fun vo vi wr => ∃ (i : Nat) (lc : List (Int × Int)), vi = .int .i64 i ∧ i ≤ N ∧ Hid (wr.ownsRow base 55 2 vo lc.length (cdv lc)) ∧ Hid (Gr w wr (.slice A0 NL c0) vo) ∧ Hid (lc ++ (codeL tail false lc.length (ts.drop i)).map (resC (fun k => sts.getD k 0)) = F)) (fun _ vi _ => N - (intOf vi).toNat)
    case atStart => exact ⟨0, l, rfl, by omega, by rw [HNL.out]; exact R0, G0, E0⟩
    case round =>
      clear R0 G0 E0
      obtain ⟨i, lc, rfl, hi, RW, GG, EF⟩ := hrel
      obtain ⟨E, ec, rfl⟩ := own_formM RW.out
      by_cases hp : i < N
      · have hp' : i < ts.length := by rw [HN.out]; exact hp
        have hPr := HPW.out wr _ GG.out
        obtain ⟨g, cap, B, m, bc, ev, hg, p0, p1, p2, hfi⟩ := hPr.item hp'
        injection ev with e1 e2 e3
        subst e1 e3
        clear e2
        have hlc := HFL.out lc i EF.out
        have hlf := HLF.out i hp'
        have hft := HFT.out i hp'
        have hih := HIH.out i hp'
        have hwd := HWD.out i hp'
        have hnx := fun h => code_next (tail := tail) (st := fun k => sts.getD k 0) hp' hlf EF.out h
        have hex := exit_drop (xs := ts) (i := i + 1)
        have HNXT : Hid (∀ j, j = i + 1 → j < N → ∃ kj, wr.cell? ⟨g, j * 3, none⟩ = some (.int .i64 kj) ∧ exitB (ts.drop (i + 1)) = decide (kj = 8) ∧ (tail = true → ts[i].k = 2 → kj = 8 → (lc ++ [(3, (sts.getD ts[i].n.toNat 0))]) ++ (codeL tail false (lc ++ [((3 : Int), (sts.getD ts[i].n.toNat 0))]).length (ts.drop (i + 2))).map (resC (fun k => sts.getD k 0)) = F)) := Lib.hid (fun j hj hjN => by
          subst hj
          have hj' : i + 1 < ts.length := by rw [HN.out]; exact hjN
          obtain ⟨g2, cap2, B2, m2, bc2, ev2, -, s0, -⟩ := hPr.item hj'
          injection ev2 with e1 e2 e3
          injection e1 with e1
          injection e1 with e1
          subst e1
          refine ⟨_, s0, by rw [hex, List.getElem?_eq_getElem hj']; simp, fun ht h2 h8 => ?_⟩
          subst ht
          exact code_tail hj' h2 h8 hlf EF.out)
        have HEND : Hid (¬ i + 1 < N → exitB (ts.drop (i + 1)) = false) := Lib.hid (fun h => by rw [hex, List.getElem?_eq_none (by rw [HN.out]; omega)]; simp)
        obtain ⟨nx, hnxe⟩ : ∃ nx, exitB (ts.drop (i + 1)) = nx := ⟨_, rfl⟩
        rw [hnxe] at hnx HNXT HEND
        have hkid := hPr.kids i hp'
        rw [hfi] at hkid
        have hsb : ∀ q, bs i q → S q := fun q hq => HSUB.out q (.inr ⟨i, hp', hq⟩)
        obtain ⟨x, hx⟩ : ∃ x, ts[i] = x := ⟨_, rfl⟩
        obtain ⟨k, n, kids⟩ := x
        rw [hx] at p0 p1 hlf hft hih hwd hnx hkid
        have HNXT2 : Hid (∀ j, j = i + 1 → j < N → ∃ kj, wr.cell? ⟨g, j * 3, none⟩ = some (.int .i64 kj) ∧ nx = decide (kj = 8) ∧ (tail = true → k = 2 → kj = 8 → (lc ++ [(3, (sts.getD n.toNat 0))]) ++ (codeL tail false (lc ++ [((3 : Int), (sts.getD n.toNat 0))]).length (ts.drop (i + 2))).map (resC (fun k => sts.getD k 0)) = F)) := Lib.hid (by have := HNXT.out; rw [hx] at this; exact this)
        simp only [Tr.k, Tr.n, Tr.kids] at p0 p1 hih hwd hnx hkid
        have hkl := lf_kids hlf
        have hks : wideL tail false kids ≤ 4000 := by have := HKS4.out i hp'; rw [hx] at this; exact this
        have i1 : (0 : Int) ≤ (i : Int) := by omega
        have i2 : (i : Int) < (N : Int) := by omega
        obtain ⟨C, hC⟩ : ∃ C, lc.length = C := ⟨_, rfl⟩
        have HC := Lib.hid hC
        rw [hC] at RW GG hlc ⊢
        have HX := Lib.hid hx
        clear hx HNXT hex hnxe HIH HWD HFT HLF hPr hC
        rcases lf_kind hlf with rfl | rfl | rfl | rfl | rfl | h34
        · have EQ : Hid ((lc ++ [((0 : Int), n)]) ++ (codeL tail false (lc ++ [((0 : Int), n)]).length (ts.drop (i + 1))).map (resC (fun k => sts.getD k 0)) = F) := Lib.hid (by have := hnx (by simp); simpa [codeT, resC] using this)
          have hr32 := (hft (0, n) (by rw [flatT]; exact List.mem_cons_self ..)).2.1
          simp only at hr32
          have wn : IntKind.i64.wrap n = n := IntWalk.i64_in _ (by omega)
          obtain ⟨W1, hW1⟩ : ∃ W, W = wr.alloc (.cells #[.int .i64 0, .int .i32 n, .slice B m bc] 77) := ⟨_, rfl⟩
          have b1 : Below wr.heap.size wr W1 := by rw [hW1]; exact below_alloc1 wr _
          have b2 : Below wr.heap.size wr (W1.alloc (.cells #[.int .i64 0, .int .i64 n] 55)) := b1.alloc b1.size _
          have R2 : Hid ((W1.alloc (.cells #[.int .i64 0, .int .i64 n] 55)).ownsRow base 55 2 (.slice E C ec) C (cdv lc)) := Lib.hid (row_sameM RW.out (fun k hk => b2.block k (World.ownsRow.lt RW.out k hk).2))
          have src := src_ins W1 (.int .i64 0) (.int .i64 n)
          have hs1 : W1.heap.size = wr.heap.size + 1 := by rw [hW1, World.size_alloc]
          rw [hs1, hW1] at src
          have SRC := Lib.hid src
          have HBS : Hid (base ≤ ((wr.alloc (.cells #[.int .i64 0, .int .i32 n, .slice B m bc] 77)).alloc (.cells #[.int .i64 0, .int .i64 n] 55)).heap.size) := Lib.hid (by rw [← hW1]; exact Nat.le_trans HBASE.out (Nat.le_trans GG.out.1.size b2.size))
          have G2 : Hid (Gr w ((wr.alloc (.cells #[.int .i64 0, .int .i32 n, .slice B m bc] 77)).alloc (.cells #[.int .i64 0, .int .i64 n] 55)) (.slice A0 NL c0) (.slice E C ec)) := Lib.hid (by rw [← hW1]; exact GG.out.trans (Gr.below b2))
          rw [hW1] at R2
          clear src hs1 hW1 b1 b2 hih hwd hnx hkid hft hlf
          go_wp2_with (at_builtin; refine wpList_append_src rfl _ _ 24 rfl base 55 i0 (.agg #[.int .i64 0, .int .i64 0]) 2 16 Try.underlying24 hi0 hz0 hz1 hzb rfl (by decide) _ C _ rfl R2.out _ 1 [.int .i64 0, .int .i64 n] rfl SRC.out (by simp [Value.oneCell']) (by unfold maxLen; omega) (by omega) HBS.out ?_; intro v9 w9 ho9 ha9; obtain ⟨D9, dc9, hv9⟩ := own_formM ho9; subst hv9; refine unstop ?_)
          refine Stop.go ?_
          have RW9 : Hid (w9.ownsRow base 55 2 (.slice D9 (C + 1) dc9) (lc ++ [((0 : Int), n)]).length (cdv (lc ++ [((0 : Int), n)]))) := Lib.hid (by rw [List.length_append, HC.out, cdv_app]; exact ho9)
          have GG9 := Lib.hid (G2.out.trans (Gr.app ha9.out))
          clear ho9 ha9 SRC R2 G2 RW GG p0 p1 p2 HBS
          go_wp2_with fail
          go_roundw
          case rel => exact ⟨i + 1, lc ++ [((0 : Int), n)], by first | rfl | go_num, by omega, RW9, GG9, EQ⟩
          case measure => simp [intOf]; omega
        · have EQ : Hid ((lc ++ [((1 : Int), n)]) ++ (codeL tail false (lc ++ [((1 : Int), n)]).length (ts.drop (i + 1))).map (resC (fun k => sts.getD k 0)) = F) := Lib.hid (by have := hnx (by simp); simpa [codeT, resC] using this)
          have hr32 := (hft (1, n) (by rw [flatT]; exact List.mem_cons_self ..)).2.1
          simp only at hr32
          have wn : IntKind.i64.wrap n = n := IntWalk.i64_in _ (by omega)
          obtain ⟨W1, hW1⟩ : ∃ W, W = wr.alloc (.cells #[.int .i64 1, .int .i32 n, .slice B m bc] 77) := ⟨_, rfl⟩
          have b1 : Below wr.heap.size wr W1 := by rw [hW1]; exact below_alloc1 wr _
          have b2 : Below wr.heap.size wr (W1.alloc (.cells #[.int .i64 1, .int .i64 n] 55)) := b1.alloc b1.size _
          have R2 : Hid ((W1.alloc (.cells #[.int .i64 1, .int .i64 n] 55)).ownsRow base 55 2 (.slice E C ec) C (cdv lc)) := Lib.hid (row_sameM RW.out (fun k hk => b2.block k (World.ownsRow.lt RW.out k hk).2))
          have src := src_ins W1 (.int .i64 1) (.int .i64 n)
          have hs1 : W1.heap.size = wr.heap.size + 1 := by rw [hW1, World.size_alloc]
          rw [hs1, hW1] at src
          have SRC := Lib.hid src
          have HBS : Hid (base ≤ ((wr.alloc (.cells #[.int .i64 1, .int .i32 n, .slice B m bc] 77)).alloc (.cells #[.int .i64 1, .int .i64 n] 55)).heap.size) := Lib.hid (by rw [← hW1]; exact Nat.le_trans HBASE.out (Nat.le_trans GG.out.1.size b2.size))
          have G2 : Hid (Gr w ((wr.alloc (.cells #[.int .i64 1, .int .i32 n, .slice B m bc] 77)).alloc (.cells #[.int .i64 1, .int .i64 n] 55)) (.slice A0 NL c0) (.slice E C ec)) := Lib.hid (by rw [← hW1]; exact GG.out.trans (Gr.below b2))
          rw [hW1] at R2
          clear src hs1 hW1 b1 b2 hih hwd hnx hkid hft hlf
          go_wp2_with (at_builtin; refine wpList_append_src rfl _ _ 24 rfl base 55 i0 (.agg #[.int .i64 0, .int .i64 0]) 2 16 Try.underlying24 hi0 hz0 hz1 hzb rfl (by decide) _ C _ rfl R2.out _ 1 [.int .i64 1, .int .i64 n] rfl SRC.out (by simp [Value.oneCell']) (by unfold maxLen; omega) (by omega) HBS.out ?_; intro v9 w9 ho9 ha9; obtain ⟨D9, dc9, hv9⟩ := own_formM ho9; subst hv9; refine unstop ?_)
          refine Stop.go ?_
          have RW9 : Hid (w9.ownsRow base 55 2 (.slice D9 (C + 1) dc9) (lc ++ [((1 : Int), n)]).length (cdv (lc ++ [((1 : Int), n)]))) := Lib.hid (by rw [List.length_append, HC.out, cdv_app]; exact ho9)
          have GG9 := Lib.hid (G2.out.trans (Gr.app ha9.out))
          clear ho9 ha9 SRC R2 G2 RW GG p0 p1 p2 HBS
          go_wp2_with fail
          go_roundw
          case rel => exact ⟨i + 1, lc ++ [((1 : Int), n)], by first | rfl | go_num, by omega, RW9, GG9, EQ⟩
          case measure => simp [intOf]; omega
        · have hfit := hft (2, n) (by rw [flatT]; exact List.mem_cons_self ..)
          have hr32 := hfit.2.1
          have hn23 : 0 ≤ n ∧ n < (K : Int) := by
            have h1 := hfit.1
            have h2 := hfit.2.2
            simp [okOp] at h1
            simp [okC, HK.out] at h2
            omega
          obtain ⟨j, rfl⟩ : ∃ j : Nat, n = (j : Int) := ⟨n.toNat, by omega⟩
          have hjK : j < K := by omega
          have hjs : j < sts.length := by rw [HK.out]; exact hjK
          have hsw := HSW.out wr _ GG.out
          obtain ⟨qs, cps, evs, -, hqs, -⟩ := own_posM hsw (by omega)
          injection evs with e1 e2 e3
          subst e1 e3
          clear e2
          obtain ⟨sk, hsk⟩ : ∃ sk, sts[j] = sk := ⟨_, rfl⟩
          have hgd : sts.getD j 0 = sk := by rw [List.getD, List.getElem?_eq_getElem hjs, hsk]; rfl
          have cs0 : wr.cell? ⟨qs, j, none⟩ = some (.int .i64 sk) := by
            rw [hsw.cellAt j (by omega), List.getElem?_map, List.getElem?_eq_getElem hjs, hsk]
            rfl
          have j1 : (0 : Int) ≤ (j : Int) := by omega
          have j2 : (j : Int) < (K : Int) := by omega
          have hK24 : K ≤ 24 := by have := HRS.out; rw [HK.out] at this; exact this
          have wn : IntKind.i64.wrap (j : Int) = (j : Int) := IntWalk.i64_in _ (by omega)
          clear hfit hr32 hn23 hsw hjs hsk hjK
          cases tail with
          | false =>
            have hno : (false && (decide ((2 : Int) = 2) && nx)) = false := rfl
            have EQ : Hid ((lc ++ [((2 : Int), sk)]) ++ (codeL false false (lc ++ [((2 : Int), sk)]).length (ts.drop (i + 1))).map (resC (fun k => sts.getD k 0)) = F) := Lib.hid (by rw [← hgd]; have := hnx hno; simpa [codeT, resC] using this)
            obtain ⟨W1, hW1⟩ : ∃ W, W = wr.alloc (.cells #[.int .i64 2, .int .i32 (j : Int), .slice B m bc] 77) := ⟨_, rfl⟩
            have b1 : Below wr.heap.size wr W1 := by rw [hW1]; exact below_alloc1 wr _
            have b2 : Below wr.heap.size wr (W1.alloc (.cells #[.int .i64 2, .int .i64 sk] 55)) := b1.alloc b1.size _
            have R2 : Hid ((W1.alloc (.cells #[.int .i64 2, .int .i64 sk] 55)).ownsRow base 55 2 (.slice E C ec) C (cdv lc)) := Lib.hid (row_sameM RW.out (fun k hk => b2.block k (World.ownsRow.lt RW.out k hk).2))
            have src := src_ins W1 (.int .i64 2) (.int .i64 sk)
            have hs1 : W1.heap.size = wr.heap.size + 1 := by rw [hW1, World.size_alloc]
            rw [hs1, hW1] at src
            have SRC := Lib.hid src
            have HBS : Hid (base ≤ ((wr.alloc (.cells #[.int .i64 2, .int .i32 (j : Int), .slice B m bc] 77)).alloc (.cells #[.int .i64 2, .int .i64 sk] 55)).heap.size) := Lib.hid (by rw [← hW1]; exact Nat.le_trans HBASE.out (Nat.le_trans GG.out.1.size b2.size))
            have G2 : Hid (Gr w ((wr.alloc (.cells #[.int .i64 2, .int .i32 (j : Int), .slice B m bc] 77)).alloc (.cells #[.int .i64 2, .int .i64 sk] 55)) (.slice A0 NL c0) (.slice E C ec)) := Lib.hid (by rw [← hW1]; exact GG.out.trans (Gr.below b2))
            rw [hW1] at R2
            clear hgd src hs1 hW1 b1 b2 hih hwd hnx hkid hft hlf
            go_wp2_with (at_builtin; refine wpList_append_src rfl _ _ 24 rfl base 55 i0 (.agg #[.int .i64 0, .int .i64 0]) 2 16 Try.underlying24 hi0 hz0 hz1 hzb rfl (by decide) _ C _ rfl R2.out _ 1 [.int .i64 2, .int .i64 sk] rfl SRC.out (by simp [Value.oneCell']) (by unfold maxLen; omega) (by omega) HBS.out ?_; intro v9 w9 ho9 ha9; obtain ⟨D9, dc9, hv9⟩ := own_formM ho9; subst hv9; refine unstop ?_)
            refine Stop.go ?_
            have RW9 : Hid (w9.ownsRow base 55 2 (.slice D9 (C + 1) dc9) (lc ++ [((2 : Int), sk)]).length (cdv (lc ++ [((2 : Int), sk)]))) := Lib.hid (by rw [List.length_append, HC.out, cdv_app]; exact ho9)
            have GG9 := Lib.hid (G2.out.trans (Gr.app ha9.out))
            clear ho9 ha9 SRC R2 G2 RW GG p0 p1 p2 HBS
            go_wp2_with fail
            go_roundw
            case rel => exact ⟨i + 1, lc ++ [((2 : Int), sk)], by first | rfl | go_num, by omega, RW9, GG9, EQ⟩
            case measure => simp [intOf]; omega
          | true =>
            obtain ⟨q, hq⟩ : ∃ q, i + 1 = q := ⟨_, rfl⟩
            have HQ := Lib.hid hq
            have wy : (i : Int) + 1 = (q : Int) := by omega
            have wi : IntKind.i64.wrap ((i : Int) + 1) = (q : Int) := by rw [wy]; exact IntWalk.i64_in _ (by omega)
            have hqN : q ≤ N := by omega
            by_cases hp2 : i + 1 < N
            · obtain ⟨kj, s0, hnxk, hfx⟩ := HNXT2.out (i + 1) rfl hp2
              rw [hq] at s0
              have i3 : (q : Int) < (N : Int) := by omega
              have i4 : (0 : Int) ≤ (q : Int) := by omega
              clear hq hp2
              by_cases h8 : kj = 8
              · subst h8
                have EQ : Hid ((lc ++ [((3 : Int), sk)]) ++ (codeL true false (lc ++ [((3 : Int), sk)]).length (ts.drop (q + 1))).map (resC (fun k => sts.getD k 0)) = F) := Lib.hid (by rw [← HQ.out]; rw [← hgd]; have := hfx rfl rfl rfl; simpa using this)
                obtain ⟨W1, hW1⟩ : ∃ W, W = wr.alloc (.cells #[.int .i64 2, .int .i32 (j : Int), .slice B m bc] 77) := ⟨_, rfl⟩
                have b1 : Below wr.heap.size wr W1 := by rw [hW1]; exact below_alloc1 wr _
                have b2 : Below wr.heap.size wr (W1.alloc (.cells #[.int .i64 3, .int .i64 sk] 55)) := b1.alloc b1.size _
                have R2 : Hid ((W1.alloc (.cells #[.int .i64 3, .int .i64 sk] 55)).ownsRow base 55 2 (.slice E C ec) C (cdv lc)) := Lib.hid (row_sameM RW.out (fun k hk => b2.block k (World.ownsRow.lt RW.out k hk).2))
                have src := src_ins W1 (.int .i64 3) (.int .i64 sk)
                have hs1 : W1.heap.size = wr.heap.size + 1 := by rw [hW1, World.size_alloc]
                rw [hs1, hW1] at src
                have SRC := Lib.hid src
                have HBS : Hid (base ≤ ((wr.alloc (.cells #[.int .i64 2, .int .i32 (j : Int), .slice B m bc] 77)).alloc (.cells #[.int .i64 3, .int .i64 sk] 55)).heap.size) := Lib.hid (by rw [← hW1]; exact Nat.le_trans HBASE.out (Nat.le_trans GG.out.1.size b2.size))
                have G2 : Hid (Gr w ((wr.alloc (.cells #[.int .i64 2, .int .i32 (j : Int), .slice B m bc] 77)).alloc (.cells #[.int .i64 3, .int .i64 sk] 55)) (.slice A0 NL c0) (.slice E C ec)) := Lib.hid (by rw [← hW1]; exact GG.out.trans (Gr.below b2))
                rw [hW1] at R2
                clear hgd src hs1 hW1 b1 b2 hih hwd hnx hkid hft hlf
                go_wp2_with (at_builtin; refine wpList_append_src rfl _ _ 24 rfl base 55 i0 (.agg #[.int .i64 0, .int .i64 0]) 2 16 Try.underlying24 hi0 hz0 hz1 hzb rfl (by decide) _ C _ rfl R2.out _ 1 [.int .i64 3, .int .i64 sk] rfl SRC.out (by simp [Value.oneCell']) (by unfold maxLen; omega) (by omega) HBS.out ?_; intro v9 w9 ho9 ha9; obtain ⟨D9, dc9, hv9⟩ := own_formM ho9; subst hv9; refine unstop ?_)
                refine Stop.go ?_
                have RW9 : Hid (w9.ownsRow base 55 2 (.slice D9 (C + 1) dc9) (lc ++ [((3 : Int), sk)]).length (cdv (lc ++ [((3 : Int), sk)]))) := Lib.hid (by rw [List.length_append, HC.out, cdv_app]; exact ho9)
                have GG9 := Lib.hid (G2.out.trans (Gr.app ha9.out))
                clear ho9 ha9 SRC R2 G2 RW GG p0 p1 p2 HBS
                go_wp2_with fail
                go_roundw
                case rel => exact ⟨q + 1, lc ++ [((3 : Int), sk)], by first | rfl | go_num, by omega, RW9, GG9, EQ⟩
                case measure => simp [intOf]; omega
              · have q8 : (kj == 8) = false := by simpa using h8
                have hnf : nx = false := by rw [hnxk]; simpa using h8
                have hno : (true && (decide ((2 : Int) = 2) && nx)) = false := by rw [hnf]; rfl
                clear hfx hnxk h8
                have EQ : Hid ((lc ++ [((2 : Int), sk)]) ++ (codeL true false (lc ++ [((2 : Int), sk)]).length (ts.drop q)).map (resC (fun k => sts.getD k 0)) = F) := Lib.hid (by rw [← HQ.out]; rw [← hgd]; have := hnx hno; simpa [codeT, resC, hnf] using this)
                obtain ⟨W1, hW1⟩ : ∃ W, W = wr.alloc (.cells #[.int .i64 2, .int .i32 (j : Int), .slice B m bc] 77) := ⟨_, rfl⟩
                have b1 : Below wr.heap.size wr W1 := by rw [hW1]; exact below_alloc1 wr _
                have b2 : Below wr.heap.size wr (W1.alloc (.cells #[.int .i64 2, .int .i64 sk] 55)) := b1.alloc b1.size _
                have R2 : Hid ((W1.alloc (.cells #[.int .i64 2, .int .i64 sk] 55)).ownsRow base 55 2 (.slice E C ec) C (cdv lc)) := Lib.hid (row_sameM RW.out (fun k hk => b2.block k (World.ownsRow.lt RW.out k hk).2))
                have src := src_ins W1 (.int .i64 2) (.int .i64 sk)
                have hs1 : W1.heap.size = wr.heap.size + 1 := by rw [hW1, World.size_alloc]
                rw [hs1, hW1] at src
                have SRC := Lib.hid src
                have HBS : Hid (base ≤ ((wr.alloc (.cells #[.int .i64 2, .int .i32 (j : Int), .slice B m bc] 77)).alloc (.cells #[.int .i64 2, .int .i64 sk] 55)).heap.size) := Lib.hid (by rw [← hW1]; exact Nat.le_trans HBASE.out (Nat.le_trans GG.out.1.size b2.size))
                have G2 : Hid (Gr w ((wr.alloc (.cells #[.int .i64 2, .int .i32 (j : Int), .slice B m bc] 77)).alloc (.cells #[.int .i64 2, .int .i64 sk] 55)) (.slice A0 NL c0) (.slice E C ec)) := Lib.hid (by rw [← hW1]; exact GG.out.trans (Gr.below b2))
                rw [hW1] at R2
                clear hgd src hs1 hW1 b1 b2 hih hwd hnx hkid hft hlf
                go_wp2_with (at_builtin; refine wpList_append_src rfl _ _ 24 rfl base 55 i0 (.agg #[.int .i64 0, .int .i64 0]) 2 16 Try.underlying24 hi0 hz0 hz1 hzb rfl (by decide) _ C _ rfl R2.out _ 1 [.int .i64 2, .int .i64 sk] rfl SRC.out (by simp [Value.oneCell']) (by unfold maxLen; omega) (by omega) HBS.out ?_; intro v9 w9 ho9 ha9; obtain ⟨D9, dc9, hv9⟩ := own_formM ho9; subst hv9; refine unstop ?_)
                refine Stop.go ?_
                have RW9 : Hid (w9.ownsRow base 55 2 (.slice D9 (C + 1) dc9) (lc ++ [((2 : Int), sk)]).length (cdv (lc ++ [((2 : Int), sk)]))) := Lib.hid (by rw [List.length_append, HC.out, cdv_app]; exact ho9)
                have GG9 := Lib.hid (G2.out.trans (Gr.app ha9.out))
                clear ho9 ha9 SRC R2 G2 RW GG p0 p1 p2 HBS
                go_wp2_with fail
                go_roundw
                case rel => exact ⟨q, lc ++ [((2 : Int), sk)], by first | rfl | go_num, by omega, RW9, GG9, EQ⟩
                case measure => simp [intOf]; omega
            · have hnf : nx = false := HEND.out hp2
              have i3 : ¬ (q : Int) < (N : Int) := by omega
              clear hq hp2
              have hno : (true && (decide ((2 : Int) = 2) && nx)) = false := by rw [hnf]; rfl
              have EQ : Hid ((lc ++ [((2 : Int), sk)]) ++ (codeL true false (lc ++ [((2 : Int), sk)]).length (ts.drop q)).map (resC (fun k => sts.getD k 0)) = F) := Lib.hid (by rw [← HQ.out]; rw [← hgd]; have := hnx hno; simpa [codeT, resC, hnf] using this)
              obtain ⟨W1, hW1⟩ : ∃ W, W = wr.alloc (.cells #[.int .i64 2, .int .i32 (j : Int), .slice B m bc] 77) := ⟨_, rfl⟩
              have b1 : Below wr.heap.size wr W1 := by rw [hW1]; exact below_alloc1 wr _
              have b2 : Below wr.heap.size wr (W1.alloc (.cells #[.int .i64 2, .int .i64 sk] 55)) := b1.alloc b1.size _
              have R2 : Hid ((W1.alloc (.cells #[.int .i64 2, .int .i64 sk] 55)).ownsRow base 55 2 (.slice E C ec) C (cdv lc)) := Lib.hid (row_sameM RW.out (fun k hk => b2.block k (World.ownsRow.lt RW.out k hk).2))
              have src := src_ins W1 (.int .i64 2) (.int .i64 sk)
              have hs1 : W1.heap.size = wr.heap.size + 1 := by rw [hW1, World.size_alloc]
              rw [hs1, hW1] at src
              have SRC := Lib.hid src
              have HBS : Hid (base ≤ ((wr.alloc (.cells #[.int .i64 2, .int .i32 (j : Int), .slice B m bc] 77)).alloc (.cells #[.int .i64 2, .int .i64 sk] 55)).heap.size) := Lib.hid (by rw [← hW1]; exact Nat.le_trans HBASE.out (Nat.le_trans GG.out.1.size b2.size))
              have G2 : Hid (Gr w ((wr.alloc (.cells #[.int .i64 2, .int .i32 (j : Int), .slice B m bc] 77)).alloc (.cells #[.int .i64 2, .int .i64 sk] 55)) (.slice A0 NL c0) (.slice E C ec)) := Lib.hid (by rw [← hW1]; exact GG.out.trans (Gr.below b2))
              rw [hW1] at R2
              clear hgd src hs1 hW1 b1 b2 hih hwd hnx hkid hft hlf
              go_wp2_with (at_builtin; refine wpList_append_src rfl _ _ 24 rfl base 55 i0 (.agg #[.int .i64 0, .int .i64 0]) 2 16 Try.underlying24 hi0 hz0 hz1 hzb rfl (by decide) _ C _ rfl R2.out _ 1 [.int .i64 2, .int .i64 sk] rfl SRC.out (by simp [Value.oneCell']) (by unfold maxLen; omega) (by omega) HBS.out ?_; intro v9 w9 ho9 ha9; obtain ⟨D9, dc9, hv9⟩ := own_formM ho9; subst hv9; refine unstop ?_)
              refine Stop.go ?_
              have RW9 : Hid (w9.ownsRow base 55 2 (.slice D9 (C + 1) dc9) (lc ++ [((2 : Int), sk)]).length (cdv (lc ++ [((2 : Int), sk)]))) := Lib.hid (by rw [List.length_append, HC.out, cdv_app]; exact ho9)
              have GG9 := Lib.hid (G2.out.trans (Gr.app ha9.out))
              clear ho9 ha9 SRC R2 G2 RW GG p0 p1 p2 HBS
              go_wp2_with fail
              go_roundw
              case rel => exact ⟨q, lc ++ [((2 : Int), sk)], by first | rfl | go_num, by omega, RW9, GG9, EQ⟩
              case measure => simp [intOf]; omega
        · have hkf : ∀ o ∈ flatL kids, OpFit sts.length o := fun o ho => hft o (by rw [flatT_nest (by omega)]; exact List.mem_cons_of_mem _ (List.mem_append_left _ ho))
          have REC : Hid (∀ W' D' lx, Gr w W' (.slice A0 NL c0) D' → W'.ownsRow base 55 2 D' lx.length (cdv lx) → (lx ++ (codeL tail false lx.length kids).map (resC (fun k => sts.getD k 0))).length ≤ 1500 → Calls Try.prog 25 #[D', .slice B m bc, .slice As K cs, .bool tail] W' (CodeT9 base W' D' (lx ++ (codeL tail false lx.length kids).map (resC (fun k => sts.getD k 0))))) := Lib.hid (fun W' D' lx hg hr hl => by
            have hp9 := (HPW.out W' D' hg).kids i hp'
            rw [hfi] at hp9
            have hx9 : ts[i].kids = kids := by rw [HX.out]; rfl
            rw [hx9] at hp9
            have hsw := HSW.out W' D' hg
            rw [← HK.out] at hsw
            have := hih hkl hkf base _ _ lx _ D' (.slice B m bc) _ (bs i) W' (Nat.le_trans HBASE.out hg.1.size) rfl hl hr hp9 (fun q hq e => by
              rcases hg.2 q e with h | h
              · exact HSD2.out q (hsb q hq) h
              · have := HSX.out q (hsb q hq); omega) hsw
            rw [HK.out] at this
            exact this)
          obtain ⟨W1, hW1⟩ : ∃ W, W = wr.alloc (.cells #[.int .i64 6, .int .i32 n, .slice B m bc] 77) := ⟨_, rfl⟩
          have b1 : Below wr.heap.size wr W1.drew := by rw [hW1]; exact (below_alloc1 wr _).drew
          have kb : Blk W1.drew wr.heap.size 77 #[.int .i64 6, .int .i32 n, .slice B m bc] := by rw [hW1]; exact (Blk.new wr _ _).drew
          have hs1 : W1.drew.heap.size = wr.heap.size + 1 := by rw [hW1]; exact World.size_alloc _ _
          have b2 : Below wr.heap.size wr (W1.drew.alloc (.cells #[.int .i64 6, .int .i64 0] 55)) := b1.alloc b1.size _
          have kb2 := kb.alloc (.cells #[.int .i64 6, .int .i64 0] 55)
          have hro : (W1.drew.alloc (.cells #[.int .i64 6, .int .i64 0] 55)).ownsRow base 55 2 (.slice E C ec) C (cdv lc) := row_sameM RW.out (fun k hk => b2.block k (World.ownsRow.lt RW.out k hk).2)
          have hbl : ∀ q, (Value.slice E C ec).ownBlock = some q → q ≠ wr.heap.size := fun q hq => by have := (World.ownsRow.lt RW.out q hq).2; omega
          have hsrc := src_ins W1.drew (.int .i64 6) (.int .i64 0)
          have hsz := Nat.le_trans HBASE.out (Nat.le_trans GG.out.1.size b2.size)
          have hg2 := GG.out.trans (Gr.below (u := .slice E C ec) b2)
          have hKC0 := kb.cell 2
          have hKC1 := kb2.cell 2
          have HONE : Hid (∀ x ∈ [Value.int .i64 6, Value.int .i64 0], x.oneCell' = true) := Lib.hid (by simp [Value.oneCell'])
          have HM1 : Hid (C + 1 ≤ maxLen) := Lib.hid (by unfold maxLen; omega)
          have HM2 : Hid ((C + 1) * 16 ≤ 140737488355328) := Lib.hid (by omega)
          have hEQ := hnx (by simp)
          obtain ⟨KX, hKX⟩ : ∃ KX : List (Int × Int), (codeL tail false (C + 1) kids).map (resC (fun k => sts.getD k 0)) = KX := ⟨_, rfl⟩
          have hEQ2 : (lc ++ [((6 : Int), (0 : Int))] ++ KX ++ [(7, ((C + 1 : Nat) : Int))]) ++ (codeL tail false (lc ++ [((6 : Int), (0 : Int))] ++ KX ++ [((7 : Int), ((C + 1 : Nat) : Int))]).length (ts.drop (i + 1))).map (resC (fun k => sts.getD k 0)) = F := by
            have e : (codeT tail false nx lc.length (.mk 6 n kids)).map (resC (fun k => sts.getD k 0)) = [((6 : Int), (0 : Int))] ++ KX ++ [((7 : Int), ((C + 1 : Nat) : Int))] := by
              rw [HC.out, ← hKX]
              simp [codeT, resC]
            rw [e, ← List.append_assoc, ← List.append_assoc] at hEQ
            exact hEQ
          have EQ := Lib.hid hEQ2
          have hl6 : (lc ++ [((6 : Int), (0 : Int))] ++ KX).length + 1 ≤ 1500 := by
            have := HFL.out _ (i + 1) hEQ2
            simp at this ⊢
            omega
          have HRC : Hid (∀ W' D', Gr w W' (.slice A0 NL c0) D' → W'.ownsRow base 55 2 D' (C + 1) (cdv lc ++ [.int .i64 6, .int .i64 0]) → Calls Try.prog 25 #[D', .slice B m bc, .slice As K cs, .bool tail] W' (CodeT9 base W' D' (lc ++ [((6 : Int), (0 : Int))] ++ KX))) := Lib.hid (fun W' D' hg hr => by
            have hl7 : (lc ++ [((6 : Int), (0 : Int))]).length = C + 1 := by rw [List.length_append, HC.out]; rfl
            have := REC.out W' D' (lc ++ [(6, 0)]) hg (by rw [hl7, cdv_app]; exact hr) (by rw [hl7, hKX]; omega)
            rw [hl7, hKX] at this
            exact this)
          obtain ⟨L6, hL6⟩ : ∃ L6, lc ++ [((6 : Int), (0 : Int))] ++ KX = L6 := ⟨_, rfl⟩
          rw [hL6] at HRC EQ hl6
          have hsrc2 := hsrc
          rw [hs1] at hsrc2
          clear hEQ hEQ2 hKX hL6 hih hwd hnx hkid hft hlf hkf REC b1 b2 hsrc
          rw [hW1] at hsrc2 hro hg2 hKC0 hKC1 hsz kb kb2
          clear hW1
          go_wp2_with fail
          go_region_held3 (fun w' => w'.cell? ⟨wr.heap.size, 2, none⟩ = some (.slice B m bc)) (first | exact hKC0 | exact hKC1 | exact hcB | exact hcC)
            (first
              | (refine wp_append_src (.tmp 106) (.tmp 108) 24 rfl base 55 i0 (.agg #[.int .i64 0, .int .i64 0]) 2 16 Try.underlying24 hi0 hz0 hz1 hzb rfl (by decide) _ C _ rfl hro _ 1 _ rfl hsrc2 HONE.out HM1.out HM2.out hsz ?_; intro v5 w5 ho5 ha5; obtain ⟨D5, dc5, hv5⟩ := own_formM ho5; subst hv5; have hg5 := hg2.trans (Gr.app ha5.out); have hkb5 := kb2.grown ha5.out.grown (fun e => hbl _ e.symm rfl); have hcB : w5.cell? ⟨wr.heap.size, 2, none⟩ = some (.slice B m bc) := hkb5.cell 2)
              | (go_at_call 25; refine (HRC.out _ _ hg5 ho5).mono ?_; rintro e w6 ⟨u6, rfl, ho6, hg6⟩; obtain ⟨D6, dc6, hv6⟩ := own_formM ho6; subst hv6; have hkb6 := hkb5.grown hg6.1 (fun e => by rcases appalt_where ha5.out _ e.symm with h | h; exact hbl _ h rfl; exact absurd h (Nat.not_le.2 kb2.lt)); have hcC : w6.cell? ⟨wr.heap.size, 2, none⟩ = some (.slice B m bc) := hkb6.cell 2))
          all_goals
            have GG6 := Lib.hid (hg5.trans hg6)
            have RW6 := Lib.hid ho6
            obtain ⟨C6, hC6⟩ : ∃ C6, L6.length = C6 := ⟨_, rfl⟩
            have HC6 := Lib.hid hC6
            rw [hC6] at RW6 GG6 hl6 ⊢
            have SRC6 := Lib.hid (src_ins w6 (.int .i64 7) (.int .i64 ((C + 1 : Nat) : Int)))
            have b6 := below_alloc1 w6 (.cells #[.int .i64 7, .int .i64 ((C + 1 : Nat) : Int)] 55)
            have R6 : Hid ((w6.alloc (.cells #[.int .i64 7, .int .i64 ((C + 1 : Nat) : Int)] 55)).ownsRow base 55 2 (.slice D6 C6 dc6) C6 (cdv L6)) := Lib.hid (row_sameM RW6.out (fun k hk => b6.block k (World.ownsRow.lt RW6.out k hk).2))
            have HBS : Hid (base ≤ (w6.alloc (.cells #[.int .i64 7, .int .i64 ((C + 1 : Nat) : Int)] 55)).heap.size) := Lib.hid (Nat.le_trans HBASE.out (Nat.le_trans GG6.out.1.size b6.size))
            have G6 := Lib.hid (GG6.out.trans (Gr.below (u := .slice D6 C6 dc6) b6))
            have wcc : IntKind.i64.wrap ((C : Int) + 1) = ((C + 1 : Nat) : Int) := by rw [show (C : Int) + 1 = ((C + 1 : Nat) : Int) by omega]; exact IntWalk.i64_in _ (by omega)
            clear hC6 ho5 ha5 ho6 hg5 hg6 hkb5 hkb6 hcB hcC hro hg2 hKC0 hKC1 hsz kb kb2 hsrc2 hbl b6 RW6 GG6 HRC p0 p1 p2 RW GG
            go_wp2_with (at_builtin; refine wpList_append_src rfl _ _ 24 rfl base 55 i0 (.agg #[.int .i64 0, .int .i64 0]) 2 16 Try.underlying24 hi0 hz0 hz1 hzb rfl (by decide) _ C6 _ rfl R6.out _ 1 [.int .i64 7, .int .i64 ((C + 1 : Nat) : Int)] rfl SRC6.out (by simp [Value.oneCell']) (by unfold maxLen; omega) (by omega) HBS.out ?_; intro v9 w9 ho9 ha9; obtain ⟨D9, dc9, hv9⟩ := own_formM ho9; subst hv9; refine unstop ?_)
            refine Stop.go ?_
            have RW9 : Hid (w9.ownsRow base 55 2 (.slice D9 (C6 + 1) dc9) (L6 ++ [((7 : Int), ((C + 1 : Nat) : Int))]).length (cdv (L6 ++ [((7 : Int), ((C + 1 : Nat) : Int))]))) := Lib.hid (by rw [List.length_append, HC6.out, cdv_app]; exact ho9)
            have GG9 := Lib.hid (G6.out.trans (Gr.app ha9.out))
            clear ho9 ha9 SRC6 R6 G6 HBS
            go_wp2_with fail
            go_roundw
            case rel => exact ⟨i + 1, L6 ++ [((7 : Int), ((C + 1 : Nat) : Int))], by go_num, by omega, RW9, GG9, EQ⟩
            case measure => simp [intOf]; omega
        · have EQ : Hid ((lc ++ [((8 : Int), (0 : Int))]) ++ (codeL tail false (lc ++ [((8 : Int), (0 : Int))]).length (ts.drop (i + 1))).map (resC (fun k => sts.getD k 0)) = F) := Lib.hid (by have := hnx (by simp); simpa [codeT, resC] using this)
          obtain ⟨W1, hW1⟩ : ∃ W, W = wr.alloc (.cells #[.int .i64 8, .int .i32 n, .slice B m bc] 77) := ⟨_, rfl⟩
          have b1 : Below wr.heap.size wr W1 := by rw [hW1]; exact below_alloc1 wr _
          have b2 : Below wr.heap.size wr (W1.alloc (.cells #[.int .i64 8, .int .i64 0] 55)) := b1.alloc b1.size _
          have R2 : Hid ((W1.alloc (.cells #[.int .i64 8, .int .i64 0] 55)).ownsRow base 55 2 (.slice E C ec) C (cdv lc)) := Lib.hid (row_sameM RW.out (fun k hk => b2.block k (World.ownsRow.lt RW.out k hk).2))
          have src := src_ins W1 (.int .i64 8) (.int .i64 0)
          have hs1 : W1.heap.size = wr.heap.size + 1 := by rw [hW1, World.size_alloc]
          rw [hs1, hW1] at src
          have SRC := Lib.hid src
          have HBS : Hid (base ≤ ((wr.alloc (.cells #[.int .i64 8, .int .i32 n, .slice B m bc] 77)).alloc (.cells #[.int .i64 8, .int .i64 0] 55)).heap.size) := Lib.hid (by rw [← hW1]; exact Nat.le_trans HBASE.out (Nat.le_trans GG.out.1.size b2.size))
          have G2 : Hid (Gr w ((wr.alloc (.cells #[.int .i64 8, .int .i32 n, .slice B m bc] 77)).alloc (.cells #[.int .i64 8, .int .i64 0] 55)) (.slice A0 NL c0) (.slice E C ec)) := Lib.hid (by rw [← hW1]; exact GG.out.trans (Gr.below b2))
          rw [hW1] at R2
          clear src hs1 hW1 b1 b2 hih hwd hnx hkid hft hlf
          go_wp2_with (at_builtin; refine wpList_append_src rfl _ _ 24 rfl base 55 i0 (.agg #[.int .i64 0, .int .i64 0]) 2 16 Try.underlying24 hi0 hz0 hz1 hzb rfl (by decide) _ C _ rfl R2.out _ 1 [.int .i64 8, .int .i64 0] rfl SRC.out (by simp [Value.oneCell']) (by unfold maxLen; omega) (by omega) HBS.out ?_; intro v9 w9 ho9 ha9; obtain ⟨D9, dc9, hv9⟩ := own_formM ho9; subst hv9; refine unstop ?_)
          refine Stop.go ?_
          have RW9 : Hid (w9.ownsRow base 55 2 (.slice D9 (C + 1) dc9) (lc ++ [((8 : Int), 0)]).length (cdv (lc ++ [((8 : Int), 0)]))) := Lib.hid (by rw [List.length_append, HC.out, cdv_app]; exact ho9)
          have GG9 := Lib.hid (G2.out.trans (Gr.app ha9.out))
          clear ho9 ha9 SRC R2 G2 RW GG p0 p1 p2 HBS
          go_wp2_with fail
          go_roundw
          case rel => exact ⟨i + 1, lc ++ [((8 : Int), 0)], by first | rfl | go_num, by omega, RW9, GG9, EQ⟩
          case measure => simp [intOf]; omega
        · rcases h34 with rfl | rfl
          · have hkf : ∀ o ∈ flatL kids, OpFit sts.length o := fun o ho => hft o (by rw [flatT_nest (by omega)]; exact List.mem_cons_of_mem _ (List.mem_append_left _ ho))
            have REC : Hid (∀ W' D' lx, Gr w W' (.slice A0 NL c0) D' → W'.ownsRow base 55 2 D' lx.length (cdv lx) → (lx ++ (codeL tail false lx.length kids).map (resC (fun k => sts.getD k 0))).length ≤ 1500 → Calls Try.prog 25 #[D', .slice B m bc, .slice As K cs, .bool tail] W' (CodeT9 base W' D' (lx ++ (codeL tail false lx.length kids).map (resC (fun k => sts.getD k 0))))) := Lib.hid (fun W' D' lx hg hr hl => by
              have hp9 := (HPW.out W' D' hg).kids i hp'
              rw [hfi] at hp9
              have hx9 : ts[i].kids = kids := by rw [HX.out]; rfl
              rw [hx9] at hp9
              have hsw := HSW.out W' D' hg
              rw [← HK.out] at hsw
              have := hih hkl hkf base _ _ lx _ D' (.slice B m bc) _ (bs i) W' (Nat.le_trans HBASE.out hg.1.size) rfl hl hr hp9 (fun q hq e => by
                rcases hg.2 q e with h | h
                · exact HSD2.out q (hsb q hq) h
                · have := HSX.out q (hsb q hq); omega) hsw
              rw [HK.out] at this
              exact this)
            obtain ⟨W1, hW1⟩ : ∃ W, W = wr.alloc (.cells #[.int .i64 3, .int .i32 n, .slice B m bc] 77) := ⟨_, rfl⟩
            have b1 : Below wr.heap.size wr W1.drew := by rw [hW1]; exact (below_alloc1 wr _).drew
            have kb : Blk W1.drew wr.heap.size 77 #[.int .i64 3, .int .i32 n, .slice B m bc] := by rw [hW1]; exact (Blk.new wr _ _).drew
            have hs1 : W1.drew.heap.size = wr.heap.size + 1 := by rw [hW1]; exact World.size_alloc _ _
            have hWS : wideL tail false kids ≤ 4000 := by have := hks; omega
            have hEQ := hnx (by simp)
            have HWC := Lib.hid (hwd hkl (.slice B m bc) W1.drew (by
              have := (hkid.stay b1).rd
              exact this))
            obtain ⟨W2, hW2⟩ : ∃ W2, wideL tail false kids = W2 := ⟨_, rfl⟩
            rw [hW2] at HWC hWS
            obtain ⟨KX, hKX⟩ : ∃ KX : List (Int × Int), (codeL tail false (C + 1) kids).map (resC (fun k => sts.getD k 0)) = KX := ⟨_, rfl⟩
            have hEQ2 : (lc ++ [((4 : Int), (C : Int) + 1 + (W2 : Int))] ++ KX) ++ (codeL tail false (lc ++ [((4 : Int), (C : Int) + 1 + (W2 : Int))] ++ KX).length (ts.drop (i + 1))).map (resC (fun k => sts.getD k 0)) = F := by
              have e : (codeT tail false nx lc.length (.mk 3 n kids)).map (resC (fun k => sts.getD k 0)) = [((4 : Int), (C : Int) + 1 + (W2 : Int))] ++ KX := by
                rw [HC.out, ← hKX]
                simp [codeT, resC, hW2]
              rw [e, ← List.append_assoc] at hEQ
              exact hEQ
            have EQ := Lib.hid hEQ2
            have hl6 : (lc ++ [((4 : Int), (C : Int) + 1 + (W2 : Int))] ++ KX).length ≤ 1500 := by
              have := HFL.out _ (i + 1) hEQ2
              simp at this ⊢
              omega
            have HRC : Hid (∀ W' D', Gr w W' (.slice A0 NL c0) D' → W'.ownsRow base 55 2 D' (C + 1) (cdv lc ++ [.int .i64 4, .int .i64 ((C : Int) + 1 + (W2 : Int))]) → Calls Try.prog 25 #[D', .slice B m bc, .slice As K cs, .bool tail] W' (CodeT9 base W' D' (lc ++ [((4 : Int), (C : Int) + 1 + (W2 : Int))] ++ KX))) := Lib.hid (fun W' D' hg hr => by
              have hl7 : (lc ++ [((4 : Int), (C : Int) + 1 + (W2 : Int))]).length = C + 1 := by rw [List.length_append, HC.out]; rfl
              have := REC.out W' D' (lc ++ [(4, (C : Int) + 1 + (W2 : Int))]) hg (by rw [hl7, cdv_app]; exact hr) (by rw [hl7, hKX]; exact hl6)
              rw [hl7, hKX] at this
              exact this)
            obtain ⟨L6, hL6⟩ : ∃ L6, lc ++ [((4 : Int), (C : Int) + 1 + (W2 : Int))] ++ KX = L6 := ⟨_, rfl⟩
            rw [hL6] at HRC EQ
            have hKC0 := kb.cell 2
            have HONE : Hid (∀ x ∈ [Value.int .i64 4, Value.int .i64 ((C : Int) + 1 + (W2 : Int))], x.oneCell' = true) := Lib.hid (by simp [Value.oneCell'])
            have HM1 : Hid (C + 1 ≤ maxLen) := Lib.hid (by unfold maxLen; omega)
            have HM2 : Hid ((C + 1) * 16 ≤ 140737488355328) := Lib.hid (by omega)
            have wv : IntKind.i64.wrap ((C : Int) + 1) = (C : Int) + 1 := IntWalk.i64_in _ (by omega)
            have wv2 : IntKind.i64.wrap ((C : Int) + 1 + (W2 : Int)) = (C : Int) + 1 + (W2 : Int) := IntWalk.i64_in _ (by omega)
            have HKB := Lib.hid kb
            have HB1 := Lib.hid b1
            have HSS : Hid (wr.heap.size ≤ W1.drew.heap.size) := Lib.hid (by rw [hs1]; omega)
            have HRR : Hid (∀ W, Below wr.heap.size wr W → W.ownsRow base 55 2 (.slice E C ec) C (cdv lc)) := Lib.hid (fun W hb => row_sameM RW.out (fun k hk => hb.block k (World.ownsRow.lt RW.out k hk).2))
            have hbl : ∀ q, (Value.slice E C ec).ownBlock = some q → q ≠ wr.heap.size := fun q hq => by have := (World.ownsRow.lt RW.out q hq).2; omega
            clear hEQ hEQ2 hKX hL6 hih hwd hnx hkid hft hlf hkf REC hW2 b1 kb hs1 hks
            rw [hW1] at HWC hKC0 HKB HB1 HSS
            clear hW1
            go_wp2_with fail
            go_region_held3 (fun w' => w'.cell? ⟨wr.heap.size, 2, none⟩ = some (.slice B m bc)) (first | exact hKC0 | exact hKC3 | exact hKC1 | exact hcB | exact hcC)
              (first
                | (go_at_call 23; refine HWC.out.mono ?_; rintro e w3 ⟨rfl, hb3⟩; have kb3 := HKB.out.below hb3 HKB.out.lt; have hKC3 := kb3.cell 2; have b3 := HB1.out.trans (hb3.mono HSS.out); have b2 := b3.alloc b3.size (.cells #[.int .i64 4, .int .i64 ((C : Int) + 1 + (W2 : Int))] 55); have kb2 := kb3.alloc (.cells #[.int .i64 4, .int .i64 ((C : Int) + 1 + (W2 : Int))] 55); have hKC1 := kb2.cell 2; have hro := HRR.out _ b2; have hsrc2 := src_ins w3 (.int .i64 4) (.int .i64 ((C : Int) + 1 + (W2 : Int))); have hsz := Nat.le_trans HBASE.out (Nat.le_trans GG.out.1.size b2.size); have hg2 := GG.out.trans (Gr.below (u := .slice E C ec) b2))
                | (refine wp_append_src (.tmp 30) (.tmp 40) 24 rfl base 55 i0 (.agg #[.int .i64 0, .int .i64 0]) 2 16 Try.underlying24 hi0 hz0 hz1 hzb rfl (by decide) _ C _ rfl hro _ 1 _ rfl hsrc2 HONE.out HM1.out HM2.out hsz ?_; intro v5 w5 ho5 ha5; obtain ⟨D5, dc5, hv5⟩ := own_formM ho5; subst hv5; have hg5 := hg2.trans (Gr.app ha5.out); have hkb5 := kb2.grown ha5.out.grown (fun e => hbl _ e.symm rfl); have hcB : w5.cell? ⟨wr.heap.size, 2, none⟩ = some (.slice B m bc) := hkb5.cell 2)
                | (go_at_call 25; refine (HRC.out _ _ hg5 ho5).mono ?_; rintro e w6 ⟨u6, rfl, ho6, hg6⟩; obtain ⟨D6, dc6, hv6⟩ := own_formM ho6; subst hv6; have hkb6 := hkb5.grown hg6.1 (fun e => by rcases appalt_where ha5.out _ e.symm with h | h; exact hbl _ h rfl; exact absurd h (Nat.not_le.2 kb2.lt)); have hcC : w6.cell? ⟨wr.heap.size, 2, none⟩ = some (.slice B m bc) := hkb6.cell 2))
            all_goals
              have GG6 := Lib.hid (hg5.trans hg6)
              have RW6 := Lib.hid ho6
              clear ho5 ha5 ho6 hg5 hg6 hkb5 hkb6 hcB hcC hro hg2 hKC0 hKC1 hKC3 hsz kb2 kb3 hsrc2 hbl HRC p0 p1 p2 RW GG b2 b3 hb3
              go_wp2_with fail
              go_roundw
              case rel => exact ⟨i + 1, L6, by go_num, by omega, RW6, GG6, EQ⟩
              case measure => simp [intOf]; omega
          · have hkf : ∀ o ∈ flatL kids, OpFit sts.length o := fun o ho => hft o (by rw [flatT_nest (by omega)]; exact List.mem_cons_of_mem _ (List.mem_append_left _ ho))
            have REC : Hid (∀ W' D' lx, Gr w W' (.slice A0 NL c0) D' → W'.ownsRow base 55 2 D' lx.length (cdv lx) → (lx ++ (codeL tail false lx.length kids).map (resC (fun k => sts.getD k 0))).length ≤ 1500 → Calls Try.prog 25 #[D', .slice B m bc, .slice As K cs, .bool tail] W' (CodeT9 base W' D' (lx ++ (codeL tail false lx.length kids).map (resC (fun k => sts.getD k 0))))) := Lib.hid (fun W' D' lx hg hr hl => by
              have hp9 := (HPW.out W' D' hg).kids i hp'
              rw [hfi] at hp9
              have hx9 : ts[i].kids = kids := by rw [HX.out]; rfl
              rw [hx9] at hp9
              have hsw := HSW.out W' D' hg
              rw [← HK.out] at hsw
              have := hih hkl hkf base _ _ lx _ D' (.slice B m bc) _ (bs i) W' (Nat.le_trans HBASE.out hg.1.size) rfl hl hr hp9 (fun q hq e => by
                rcases hg.2 q e with h | h
                · exact HSD2.out q (hsb q hq) h
                · have := HSX.out q (hsb q hq); omega) hsw
              rw [HK.out] at this
              exact this)
            obtain ⟨W1, hW1⟩ : ∃ W, W = wr.alloc (.cells #[.int .i64 4, .int .i32 n, .slice B m bc] 77) := ⟨_, rfl⟩
            have b1 : Below wr.heap.size wr W1.drew := by rw [hW1]; exact (below_alloc1 wr _).drew
            have kb : Blk W1.drew wr.heap.size 77 #[.int .i64 4, .int .i32 n, .slice B m bc] := by rw [hW1]; exact (Blk.new wr _ _).drew
            have hs1 : W1.drew.heap.size = wr.heap.size + 1 := by rw [hW1]; exact World.size_alloc _ _
            have hWS : wideL tail false kids ≤ 4000 := by have := hks; omega
            have hEQ := hnx (by simp)
            have HWC := Lib.hid (hwd hkl (.slice B m bc) W1.drew (by
              have := (hkid.stay b1).rd
              exact this))
            obtain ⟨W2, hW2⟩ : ∃ W2, wideL tail false kids = W2 := ⟨_, rfl⟩
            rw [hW2] at HWC hWS
            obtain ⟨KX, hKX⟩ : ∃ KX : List (Int × Int), (codeL tail false (C + 1) kids).map (resC (fun k => sts.getD k 0)) = KX := ⟨_, rfl⟩
            have hEQ2 : (lc ++ [((5 : Int), (C : Int) + 1 + (W2 : Int))] ++ KX) ++ (codeL tail false (lc ++ [((5 : Int), (C : Int) + 1 + (W2 : Int))] ++ KX).length (ts.drop (i + 1))).map (resC (fun k => sts.getD k 0)) = F := by
              have e : (codeT tail false nx lc.length (.mk 4 n kids)).map (resC (fun k => sts.getD k 0)) = [((5 : Int), (C : Int) + 1 + (W2 : Int))] ++ KX := by
                rw [HC.out, ← hKX]
                simp [codeT, resC, hW2]
              rw [e, ← List.append_assoc] at hEQ
              exact hEQ
            have EQ := Lib.hid hEQ2
            have hl6 : (lc ++ [((5 : Int), (C : Int) + 1 + (W2 : Int))] ++ KX).length ≤ 1500 := by
              have := HFL.out _ (i + 1) hEQ2
              simp at this ⊢
              omega
            have HRC : Hid (∀ W' D', Gr w W' (.slice A0 NL c0) D' → W'.ownsRow base 55 2 D' (C + 1) (cdv lc ++ [.int .i64 5, .int .i64 ((C : Int) + 1 + (W2 : Int))]) → Calls Try.prog 25 #[D', .slice B m bc, .slice As K cs, .bool tail] W' (CodeT9 base W' D' (lc ++ [((5 : Int), (C : Int) + 1 + (W2 : Int))] ++ KX))) := Lib.hid (fun W' D' hg hr => by
              have hl7 : (lc ++ [((5 : Int), (C : Int) + 1 + (W2 : Int))]).length = C + 1 := by rw [List.length_append, HC.out]; rfl
              have := REC.out W' D' (lc ++ [(5, (C : Int) + 1 + (W2 : Int))]) hg (by rw [hl7, cdv_app]; exact hr) (by rw [hl7, hKX]; exact hl6)
              rw [hl7, hKX] at this
              exact this)
            obtain ⟨L6, hL6⟩ : ∃ L6, lc ++ [((5 : Int), (C : Int) + 1 + (W2 : Int))] ++ KX = L6 := ⟨_, rfl⟩
            rw [hL6] at HRC EQ
            have hKC0 := kb.cell 2
            have HONE : Hid (∀ x ∈ [Value.int .i64 5, Value.int .i64 ((C : Int) + 1 + (W2 : Int))], x.oneCell' = true) := Lib.hid (by simp [Value.oneCell'])
            have HM1 : Hid (C + 1 ≤ maxLen) := Lib.hid (by unfold maxLen; omega)
            have HM2 : Hid ((C + 1) * 16 ≤ 140737488355328) := Lib.hid (by omega)
            have wv : IntKind.i64.wrap ((C : Int) + 1) = (C : Int) + 1 := IntWalk.i64_in _ (by omega)
            have wv2 : IntKind.i64.wrap ((C : Int) + 1 + (W2 : Int)) = (C : Int) + 1 + (W2 : Int) := IntWalk.i64_in _ (by omega)
            have HKB := Lib.hid kb
            have HB1 := Lib.hid b1
            have HSS : Hid (wr.heap.size ≤ W1.drew.heap.size) := Lib.hid (by rw [hs1]; omega)
            have HRR : Hid (∀ W, Below wr.heap.size wr W → W.ownsRow base 55 2 (.slice E C ec) C (cdv lc)) := Lib.hid (fun W hb => row_sameM RW.out (fun k hk => hb.block k (World.ownsRow.lt RW.out k hk).2))
            have hbl : ∀ q, (Value.slice E C ec).ownBlock = some q → q ≠ wr.heap.size := fun q hq => by have := (World.ownsRow.lt RW.out q hq).2; omega
            clear hEQ hEQ2 hKX hL6 hih hwd hnx hkid hft hlf hkf REC hW2 b1 kb hs1 hks
            rw [hW1] at HWC hKC0 HKB HB1 HSS
            clear hW1
            go_wp2_with fail
            go_region_held3 (fun w' => w'.cell? ⟨wr.heap.size, 2, none⟩ = some (.slice B m bc)) (first | exact hKC0 | exact hKC3 | exact hKC1 | exact hcB | exact hcC)
              (first
                | (go_at_call 23; refine HWC.out.mono ?_; rintro e w3 ⟨rfl, hb3⟩; have kb3 := HKB.out.below hb3 HKB.out.lt; have hKC3 := kb3.cell 2; have b3 := HB1.out.trans (hb3.mono HSS.out); have b2 := b3.alloc b3.size (.cells #[.int .i64 5, .int .i64 ((C : Int) + 1 + (W2 : Int))] 55); have kb2 := kb3.alloc (.cells #[.int .i64 5, .int .i64 ((C : Int) + 1 + (W2 : Int))] 55); have hKC1 := kb2.cell 2; have hro := HRR.out _ b2; have hsrc2 := src_ins w3 (.int .i64 5) (.int .i64 ((C : Int) + 1 + (W2 : Int))); have hsz := Nat.le_trans HBASE.out (Nat.le_trans GG.out.1.size b2.size); have hg2 := GG.out.trans (Gr.below (u := .slice E C ec) b2))
                | (refine wp_append_src (.tmp 30) (.tmp 40) 24 rfl base 55 i0 (.agg #[.int .i64 0, .int .i64 0]) 2 16 Try.underlying24 hi0 hz0 hz1 hzb rfl (by decide) _ C _ rfl hro _ 1 _ rfl hsrc2 HONE.out HM1.out HM2.out hsz ?_; intro v5 w5 ho5 ha5; obtain ⟨D5, dc5, hv5⟩ := own_formM ho5; subst hv5; have hg5 := hg2.trans (Gr.app ha5.out); have hkb5 := kb2.grown ha5.out.grown (fun e => hbl _ e.symm rfl); have hcB : w5.cell? ⟨wr.heap.size, 2, none⟩ = some (.slice B m bc) := hkb5.cell 2)
                | (go_at_call 25; refine (HRC.out _ _ hg5 ho5).mono ?_; rintro e w6 ⟨u6, rfl, ho6, hg6⟩; obtain ⟨D6, dc6, hv6⟩ := own_formM ho6; subst hv6; have hkb6 := hkb5.grown hg6.1 (fun e => by rcases appalt_where ha5.out _ e.symm with h | h; exact hbl _ h rfl; exact absurd h (Nat.not_le.2 kb2.lt)); have hcC : w6.cell? ⟨wr.heap.size, 2, none⟩ = some (.slice B m bc) := hkb6.cell 2))
            all_goals
              have GG6 := Lib.hid (hg5.trans hg6)
              have RW6 := Lib.hid ho6
              clear ho5 ha5 ho6 hg5 hg6 hkb5 hkb6 hcB hcC hro hg2 hKC0 hKC1 hKC3 hsz kb2 kb3 hsrc2 hbl HRC p0 p1 p2 RW GG b2 b3 hb3
              go_wp2_with fail
              go_roundw
              case rel => exact ⟨i + 1, L6, by go_num, by omega, RW6, GG6, EQ⟩
              case measure => simp [intOf]; omega
      · obtain rfl : i = N := by omega
        have hfin := EF.out
        rw [List.drop_of_length_le (by rw [HN.out]; omega)] at hfin
        have HE : Hid (lc = F) := Lib.hid (by simpa [codeL] using hfin)
        have hr := RW.out
        have HL : Hid (F.length = lc.length ∧ cdv F = cdv lc) := Lib.hid (by rw [HE.out]; exact ⟨rfl, rfl⟩)
        clear hfin
        go_wp2_with fail
        go_ret
        exact ⟨_, rfl, by rw [HL.out.1, HL.out.2]; exact RW.out, GG.out⟩
end Go.Proofs.Ytofikgjoiidhmaa

namespace Go.Proofs.Ytofikgjoiidhmaa
open Go.RowKit Go

set_option maxRecDepth 100000 in
set_option maxHeartbeats 2000000 in
theorem spec_defs_long (ds : List Df) (hl : ¬ ds.length ≤ 24) (hs : SmD ds) (v : Value) (w : World) (hr : RdD w v ds) : Calls Try.prog 22 #[v] w fun e w' => e = .returned (.bool (okDefs ds)) ∧ Below w.heap.size w w' := by
  have he : okDefs ds = false := by unfold okDefs; simp [hl]
  rw [he]
  obtain ⟨A, cap, rfl⟩ := hr.form
  have hs1 := hs.1
  obtain ⟨N, hN⟩ : ∃ N, ds.length = N := ⟨_, rfl⟩
  rw [hN] at hl hs1 ⊢
  have h60 : 24 < N := by omega
  have h60' : (24 : Int) < (N : Int) := by omega
  clear hr he hl hN hs
  go_enter Try.func22, Try.ntmps22
  go_wp2_with fail
  go_ret
  exact ⟨rfl, by go_grown⟩
set_option maxRecDepth 100000 in
set_option maxHeartbeats 8000000 in
theorem spec_defs_short (ds : List Df) (hl : ds.length ≤ 24) (hs : SmD ds) (v : Value) (w : World) (hr : RdD w v ds) : Calls Try.prog 22 #[v] w fun e w' => e = .returned (.bool (okDefs ds)) ∧ Below w.heap.size w w' := by
  obtain ⟨R, hR⟩ : ∃ R, okDefs ds = R := ⟨_, rfl⟩
  rw [hR]
  obtain ⟨A, cap, rfl⟩ := hr.form
  have HR := Lib.hid (fun W (h : Below w.heap.size w W) => hr.below h)
  have HEND := Lib.hid (fun h => (okDefs_all hl h).symm.trans hR)
  have HNO := Lib.hid (fun i (hi : i < ds.length) h => hR.symm.trans (okDefs_not (ds := ds) hi h))
  have HST := Lib.hid (fun i (hi : i < ds.length) => all_step (p := okDf ds.length) hi)
  have HSM := Lib.hid hs.2
  obtain ⟨N, hN⟩ : ∃ N, ds.length = N := ⟨_, rfl⟩
  rw [hN] at HEND
  have HN := Lib.hid hN
  rw [hN] at hl ⊢
  have h24 : ¬ (24 : Int) < (N : Int) := by omega
  clear hr hs hR hN
  go_enter Try.func22, Try.ntmps22
  go_wp2_with fail
  go_loopw [3] (fun vi wr => ∃ i : Nat, vi = .int .i64 i ∧ i ≤ N ∧ Hid (Below w.heap.size w wr) ∧ Hid ((ds.take i).all (okDf ds.length) = true)) (fun vi _ => N - (intOf vi).toNat)
  case atStart => exact ⟨0, rfl, by omega, Lib.hid (Below.refl _ _), Lib.hid (by simp)⟩
  case round =>
    obtain ⟨i, rfl, hi, HB, HA⟩ := hrel
    by_cases hp : i < N
    · have hp' : i < ds.length := by rw [HN.out]; exact hp
      obtain ⟨a, B, m, bc, rfl, la, p0, p1, r0, em⟩ := (HR.out wr HB.out).item hp'
      have HNO2 := Lib.hid (HNO.out i hp')
      have HST2 := Lib.hid (HST.out i hp' HA.out)
      have hsm := HSM.out _ (List.getElem_mem hp')
      rw [HN.out] at HNO2 HST2
      obtain ⟨x, hx⟩ : ∃ x, ds[i] = x := ⟨_, rfl⟩
      rw [hx] at p0 r0 em HNO2 HST2 hsm
      obtain ⟨nm, xs⟩ := x
      simp only at p0 r0 em hsm
      obtain ⟨hsz, hxl, hrg⟩ := hsm
      have LA : Hid ((a.add (i * 2)).block < wr.heap.size) := Lib.hid (by rw [addr_addb]; exact la)
      have HNM := Lib.hid (fun W => spec_nameok nm (by omega) W)
      have HSH := Lib.hid (fun W (h : Below wr.heap.size wr W) => spec_shape xs hrg (.slice B m bc) W (r0.below h))
      have HRX := Lib.hid (fun W (h : Below wr.heap.size wr W) => r0.below h)
      have HRG := Lib.hid (show RngO xs from hrg)
      have hm : m ≤ 1048576 := by omega
      have HXM := Lib.hid em
      have i1 : (0 : Int) ≤ (i : Int) := by omega
      have i2 : (i : Int) < (N : Int) := by omega
      clear hx la hp' hsz hxl hrg r0 em HA
      cases hn : nameOk nm with
      | false =>
        rw [hn] at HNM
        have HE : Hid (R = false) := Lib.hid (HNO2.out (by simp [okDf, hn]))
        clear hn HNO2 HST2 HSH HRX
        go_wp2_with fail
        refine (HNM.out _).mono ?_
        rintro e w2 ⟨rfl, rfl⟩
        go_wp2_with fail
        go_ret
        exact ⟨by rw [HE.out]; rfl, HB.out⟩
      | true =>
        rw [hn] at HNM
        cases hsh : shapeB xs with
        | false =>
          rw [hsh] at HSH
          have HE : Hid (R = false) := Lib.hid (HNO2.out (by simp [okDf, hsh]))
          clear hn hsh HNO2 HST2 HRX
          go_wp2_with fail
          refine (HNM.out _).mono ?_
          rintro e w2 ⟨rfl, rfl⟩
          go_wp2_with fail
          refine (HSH.out _ (Below.refl _ _)).mono ?_
          rintro e w3 ⟨rfl, hb3⟩
          have HB2 := Lib.hid (HB.out.trans (hb3.mono HB.out.size))
          clear hb3 HB
          go_wp2_with fail
          go_ret
          exact ⟨by rw [HE.out]; rfl, HB2.out⟩
        | true =>
          rw [hsh] at HSH
          have HOK : Hid (okDf N (nm, xs) = xs.all (okC N)) := Lib.hid (by simp [okDf, hn, hsh])
          clear hn hsh
          go_wp2_with fail
          refine (HNM.out _).mono ?_
          rintro e w2 ⟨rfl, rfl⟩
          go_wp2_with fail
          refine (HSH.out _ (Below.refl _ _)).mono ?_
          rintro e w3 ⟨rfl, hb3⟩
          have HB3 := Lib.hid (HB.out.trans (hb3.mono HB.out.size))
          have RX3 := Lib.hid (fun W (h : Below w3.heap.size w3 W) => (HRX.out w3 hb3).below h)
          have C1 := Lib.hid (fun W (h : Below w3.heap.size w3 W) => ((hb3.trans (h.mono hb3.size)).cell (p := ⟨(a.add (i * 2)).block, (a.add (i * 2)).off + 1, none⟩) LA.out).trans p1)
          clear hb3 HB HSH HRX HNM p0 p1
          go_wp2_with fail
          go_loopw [4] (fun vk wr2 => ∃ k : Nat, vk = .int .i64 k ∧ k ≤ m ∧ Hid (Below w3.heap.size w3 wr2) ∧ Hid ((xs.take k).all (okC N) = true)) (fun vk _ => m - (intOf vk).toNat)
          case atStart => exact ⟨0, rfl, by omega, Lib.hid (Below.refl _ _), Lib.hid (by simp)⟩
          case round =>
            obtain ⟨k, rfl, hk, HB4, HA4⟩ := hrel
            have q1 := C1.out wr HB4.out
            by_cases hkm : k < m
            · have hk' : k < xs.length := by have := HXM.out; omega
              obtain ⟨b, rfl, lb, o0, o1⟩ := (RX3.out wr HB4.out).item hk'
              have hrx := HRG.out _ (List.getElem_mem hk')
              have HSTC := Lib.hid (fun h => all_step (p := okC N) hk' HA4.out h)
              have HNOC := Lib.hid (fun h => HNO2.out (by rw [HOK.out]; exact all_not (p := okC N) hk' h))
              obtain ⟨x, hx⟩ : ∃ x, xs[k] = x := ⟨_, rfl⟩
              rw [hx] at o0 o1 hrx HSTC HNOC
              obtain ⟨kk, z⟩ := x
              simp only at hrx o0 o1
              have k1 : (0 : Int) ≤ (k : Int) := by omega
              have k2 : (k : Int) < (m : Int) := by omega
              have wn : IntKind.i64.wrap z = z := IntWalk.i64_in _ (by omega)
              clear hx hrx lb hk' HA4
              by_cases hkk : kk = 2
              · subst hkk
                by_cases hz : (N : Int) ≤ z
                · have HE : Hid (R = false) := Lib.hid (HNOC.out (by simp [okC, hz]))
                  have HB5 := Lib.hid (HB3.out.trans ((HB4.out.alloc HB4.out.size (.cells #[.int .i64 2, .int .i32 z] 75)).mono HB3.out.size))
                  clear HSTC HNOC HNO2 HST2 HB3 HB4
                  go_wp2_with fail
                  go_ret
                  exact ⟨by rw [HE.out]; rfl, HB5.out⟩
                · have HA5 := Lib.hid (HSTC.out (by simp [okC]; omega))
                  have HB5 := Lib.hid (HB4.out.alloc HB4.out.size (.cells #[.int .i64 2, .int .i32 z] 75))
                  clear HSTC HNOC HB4
                  go_wp2_with fail
                  go_roundw
                  case rel => exact ⟨k + 1, by go_num, by omega, HB5, HA5⟩
                  case measure => simp [intOf]; omega
              · have q2 : (kk == 2) = false := by simpa using hkk
                have HA5 := Lib.hid (HSTC.out (by simp [okC, hkk]))
                have HB5 := Lib.hid (HB4.out.alloc HB4.out.size (.cells #[.int .i64 kk, .int .i32 z] 75))
                clear HSTC HNOC HB4 hkk
                go_wp2_with fail
                go_roundw
                case rel => exact ⟨k + 1, by go_num, by omega, HB5, HA5⟩
                case measure => simp [intOf]; omega
            · obtain rfl : k = m := by omega
              have HA2 : Hid ((ds.take (i + 1)).all (okDf ds.length) = true) := Lib.hid (by
                have hall : xs.all (okC N) = true := by have := HA4.out; rwa [List.take_of_length_le (by have := HXM.out; omega)] at this
                have := HST2.out (by rw [HOK.out, hall])
                rw [HN.out]
                exact this)
              have HB5 := Lib.hid (HB3.out.trans (HB4.out.mono HB3.out.size))
              clear HA4 HB3 HB4 HNO2 HST2 HOK
              go_wp2_with fail
              go_roundw
              case rel => exact ⟨i + 1, by go_num, by omega, HB5, HA2⟩
              case measure => simp [intOf]; omega
    · obtain rfl : i = N := by omega
      have HE : Hid (R = true) := Lib.hid (by have := HEND.out (by rw [← HN.out]; have := HA.out; rw [← HN.out] at this; exact this); exact this.symm)
      clear HA HR HEND HNO HST
      go_wp2_with fail
      go_ret
      exact ⟨by rw [HE.out]; rfl, HB.out⟩
theorem spec_defs (ds : List Df) (hs : SmD ds) (v : Value) (w : World) (hr : RdD w v ds) : Calls Try.prog 22 #[v] w fun e w' => e = .returned (.bool (okDefs ds)) ∧ Below w.heap.size w w' := by
  by_cases hl : ds.length ≤ 24
  · exact spec_defs_short ds hl hs v w hr
  · exact spec_defs_long ds hl hs v w hr
end Go.Proofs.Ytofikgjoiidhmaa
