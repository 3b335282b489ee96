/-
  spec.l09Trees, spec.TreeOf.
-/
import Derived.Test.YtlkkobffgbjkpaaTreeW
import Derived.Test.YtlkkobffgbjkpaaAppend
import Derived.Test.YtlkkobffgbjkpaaOpW
import Derived.Test.YtlkkobffgbjkpaaShapeS
import Derived.IntWalk
import Derived.Deep.Cut
namespace Go.Proofs.Ytlkkobffgbjkpaa
open Go.RowKit Go

theorem infoTr : (Try.prog.info? 83).map (fun i => (i.zero, i.size, i.bytes)) = some (some (.agg #[.int .i64 0, .int .i32 0, .slice none 0 0]), 3, 40) := by kernel_rfl
/-- What the functions that make trees of ops tell: trees of one's own, and a place. -/
def TreesEnd (ts : List Tr) (j : Nat) (w : World) (e : Ending) (w' : World) : Prop :=
  ∃ u S, e = .returned (.tuple #[u, .int .i64 (j : Int)]) ∧ OwnT w' w.heap.size u ts S ∧ Below w.heap.size w w'
/-- Room for none, at first. -/
theorem own_emptyT (w : World) : (w.alloc (.cells #[] 83)).ownsRow w.heap.size 83 3 (.slice (some ⟨w.heap.size, 0, none⟩) 0 0) 0 [] :=
  ⟨rfl, .inr ⟨w.heap.size, 0, #[], rfl, Nat.le_refl _, heap_alloc_new w _, Nat.le_refl _, Nat.zero_le _, rfl, rfl⟩⟩
theorem grows_nil {zs : List (Int × Int)} {ys : List (Int × Int)} (h : Grows zs [] ys) : ys = zs ∧ ∀ o r, zs = o :: r → o.1 = 5 ∨ o.1 = 7 := by
  cases h with
  | stop xs h => exact ⟨rfl, h⟩
theorem grows_cons {zs ys : List (Int × Int)} {t : Tr} {ts : List Tr} (h : Grows zs (t :: ts) ys) : ∃ k n r, zs = (k, n) :: r ∧
    ((k ≠ 3 ∧ k ≠ 4 ∧ k ≠ 5 ∧ k ≠ 6 ∧ k ≠ 7 ∧ t = .mk k n [] ∧ Grows r ts ys) ∨ ((k = 3 ∨ k = 4 ∨ k = 6) ∧ ∃ kids r2, t = .mk k n kids ∧ Grows r kids (endOf k :: r2) ∧ Grows r2 ts ys)) := by
  cases h with
  | leaf o r ys ts h g => exact ⟨o.1, o.2, r, rfl, .inl ⟨h.1, h.2.1, h.2.2.1, h.2.2.2.1, h.2.2.2.2, rfl, g⟩⟩
  | nest o r r2 ys kids ts h gk g => exact ⟨o.1, o.2, r, rfl, .inr ⟨h, kids, r2, rfl, gk, g⟩⟩
theorem drop_cons {xs r : List (Int × Int)} {p : Nat} {o : Int × Int} (h : xs.drop p = o :: r) : ∃ hp : p < xs.length, xs[p] = o ∧ xs.drop (p + 1) = r := by
  have hp : p < xs.length := by
    rcases Nat.lt_or_ge p xs.length with h2 | h2
    · exact h2
    · rw [List.drop_of_length_le h2] at h; cases h
  rw [List.drop_eq_getElem_cons hp] at h
  injection h with h1 h2
  exact ⟨hp, h1, h2⟩

theorem PartsT.kept {w w' : World} {base : Nat} {v : Value} {xs : List Tr} {S : Nat → Prop} {f : Nat → Value} {bs : Nat → Nat → Prop} (P : PartsT w base v xs S f bs) (hz : w.heap.size ≤ w'.heap.size) (hk : ∀ g, S g → w'.heap[g]? = w.heap[g]?) : PartsT w' base v xs S f bs :=
  ⟨row_same P.row (fun g hg => hk g (P.sub g (.inl hg))), fun j hj => (P.kids j hj).kept hz (fun g hg => hk g (P.sub g (.inr ⟨j, hj, hg⟩))), P.d1, P.d2, P.sub, fun g hg => ⟨(P.bound g hg).1, by have := (P.bound g hg).2; omega⟩⟩
theorem PartsT.alloc {w : World} {base : Nat} {v : Value} {xs : List Tr} {S : Nat → Prop} {f : Nat → Value} {bs : Nat → Nat → Prop} (P : PartsT w base v xs S f bs) (o : Obj) : PartsT (w.alloc o) base v xs S f bs := by
  have b1 : Below w.heap.size w (w.alloc o) := below_alloc1 w o
  exact ⟨row_same P.row (fun g hg => b1.block g (P.bound g (P.sub g (.inl hg))).2), fun j hj => (P.kids j hj).kept b1.size (fun g hg => b1.block g (P.bound g (P.sub g (.inr ⟨j, hj, hg⟩))).2), P.d1, P.d2, P.sub, fun g hg => ⟨(P.bound g hg).1, by have := (P.bound g hg).2; have := b1.size; omega⟩⟩
theorem src_three (w : World) (a b c : Value) : SrcAt (w.alloc (.cells #[a, b, c] 83)) 3 (.slice (some ⟨w.heap.size, 0, none⟩) 1 1) 1 [a, b, c] := by
  refine ⟨_, _, rfl, rfl, fun h => by simp at h, fun q hq j x hj => ?_⟩
  obtain rfl : q = ⟨w.heap.size, 0, none⟩ := by injection hq with hq; exact hq.symm
  rw [addr_lit, cell_of_row _ w.heap.size (0 + j) #[a, b, c] 83 (0, 0) (heap_alloc_new w _), Nat.zero_add]
  simpa using hj
set_option maxRecDepth 100000 in
set_option maxHeartbeats 4000000 in
theorem spec_treesL : ∀ (M : Nat) (xs : List (Int × Int)), xs.length ≤ 60 → ∀ (i : Nat) (ts : List Tr) (ys : List (Int × Int)), Grows (xs.drop i) ts ys → i ≤ xs.length → xs.length - i < M → ∀ (v : Value) (w : World), RdS w v xs →
    Calls Try.prog 59 #[v, .int .i64 i] w (TreesEnd ts (xs.length - ys.length) w) := by
  intro M
  induction M with
  | zero => intro xs hl i ts ys hg hi hM; omega
  | succ M ih =>
    intro xs hl i ts ys hg hi hM v w hr
    obtain ⟨A, cap, rfl⟩ := hr.form
    obtain ⟨i0, hi0, hz0, hz1, hz2⟩ := info_parts infoTr
    have HR := Lib.hid (fun W (h : Below w.heap.size w W) => hr.below h)
    have HIH := Lib.hid (fun p (h1 : i < p) (h2 : p ≤ xs.length) kids zs (hg : Grows (xs.drop p) kids zs) v W hr => ih xs hl p kids zs hg h2 (by omega) v W hr)
    have HG := Lib.hid hg
    have ST := Lib.hid (OwnT.empty (own_emptyT w))
    have BEL := Lib.hid (below_alloc1 w (.cells #[] 83))
    obtain ⟨N, hN⟩ : ∃ N, xs.length = N := ⟨_, rfl⟩
    have HN := Lib.hid hN
    obtain ⟨j, hj⟩ : ∃ j, N - ys.length = j := ⟨_, rfl⟩
    have HJ := Lib.hid hj
    rw [hN] at hl hi HIH HR ⊢
    rw [hj]
    clear hr ih hg hM hN hj
    go_enter Try.func59, Try.ntmps59
    go_wp2_with fail
    go_loopw [1, 6] (fun vp vo wr => ∃ (p : Nat) (u : Value) (done rest : List Tr) (S : Nat → Prop), vp = .int .i64 p ∧ vo = u ∧ i ≤ p ∧ p ≤ N ∧ done.length ≤ p ∧ Hid (ts = done ++ rest) ∧ Hid (Grows (xs.drop p) rest ys) ∧ Hid (OwnT wr w.heap.size u done S) ∧ Hid (Below w.heap.size w wr)) (fun vp _ _ => N - (intOf vp).toNat)
    case atStart => exact ⟨i, _, [], ts, _, rfl, rfl, Nat.le_refl _, hi, by simp, Lib.hid rfl, HG, ST, BEL⟩
    case round =>
      obtain ⟨p, u, done, rest, S, rfl, rfl, hip, hp, hdp, HT, HGR, HO, HB⟩ := hrel
      clear ST BEL HG
      cases rest with
      | nil =>
        obtain ⟨hys, hstop⟩ := grows_nil HGR.out
        have hjp : j = p := by have := HJ.out; rw [hys, List.length_drop, HN.out] at this; omega
        have HTT : Hid (ts = done) := Lib.hid (by rw [HT.out]; simp)
        subst hjp
        by_cases hlt : j < N
        · obtain ⟨a, rfl, la, p0, p1⟩ := (HR.out wr HB.out).item (i := j) (by rw [HN.out]; exact hlt)
          have hk := hstop (xs[j]'(by rw [HN.out]; exact hlt)) (xs.drop (j + 1)) (List.drop_eq_getElem_cons _)
          obtain ⟨x, hx⟩ : ∃ x, xs[j]'(by rw [HN.out]; exact hlt) = x := ⟨_, rfl⟩
          obtain ⟨k, n⟩ := x
          rw [hx] at p0 p1 hk
          simp only at p0 p1 hk
          have i1 : (0 : Int) ≤ (j : Int) := by omega
          have i2 : (j : Int) < (N : Int) := by omega
          clear hstop hys hx HT HGR la
          rcases hk with rfl | rfl
          all_goals
            go_wp2_with fail
            go_ret2
            exact ⟨_, S, rfl, by rw [HTT.out]; exact HO.out, HB.out⟩
        · have i2 : ¬ (j : Int) < (N : Int) := by omega
          clear hstop hys HT HGR
          go_wp2_with fail
          go_ret2
          exact ⟨_, S, rfl, by rw [HTT.out]; exact HO.out, HB.out⟩
      | cons t rest =>
        obtain ⟨f, bs, P⟩ := HO.out.parts
        obtain ⟨D, dc, rfl⟩ := own_formS P.row
        obtain ⟨k, n, r, hzs, hcase⟩ := grows_cons HGR.out
        obtain ⟨hlt, hx, hdr⟩ := drop_cons hzs
        obtain ⟨a, rfl, la, p0, p1⟩ := (HR.out wr HB.out).item hlt
        rw [hx] at p0 p1
        simp only at p0 p1
        rw [HN.out] at hlt
        have i1 : (0 : Int) ≤ (p : Int) := by omega
        have i2 : (p : Int) < (N : Int) := by omega
        have hbz := below_alloc1 wr (.cells #[.int .i64 0, .int .i32 0, .slice none 0 0] 83)
        have la2 : (a.add (p * 2)).block < wr.heap.size := by rw [addr_addb]; exact la
        have p0z : (wr.alloc (.cells #[.int .i64 0, .int .i32 0, .slice none 0 0] 83)).cell? (a.add (p * 2)) = some (.int .i64 k) := (hbz.cell la2).trans p0
        have p1z : (wr.alloc (.cells #[.int .i64 0, .int .i32 0, .slice none 0 0] 83)).cell? ⟨(a.add (p * 2)).block, (a.add (p * 2)).off + 1, none⟩ = some (.int .i32 n) := (hbz.cell (p := ⟨(a.add (p * 2)).block, (a.add (p * 2)).off + 1, none⟩) la2).trans p1
        obtain ⟨W1, hW1⟩ : ∃ W, W = (wr.alloc (.cells #[.int .i64 k, .int .i32 n, .slice none 0 0] 83)).drew := ⟨_, rfl⟩
        have b1 : Below wr.heap.size wr W1 := by rw [hW1]; exact (below_alloc1 wr _).drew
        have k1 : Blk W1 wr.heap.size 83 #[.int .i64 k, .int .i32 n, .slice none 0 0] := by rw [hW1]; exact (Blk.new wr _ _).drew
        have HB1 := Lib.hid (HB.out.trans (b1.mono HB.out.size))
        have HW1 := Lib.hid hW1
        have HP := Lib.hid P
        have HO1 := Lib.hid (HO.out.kept b1.size (fun g hg => b1.block g (HO.out.bound g hg).2))
        have hdN : done.length ≤ 60 := by omega
        have HZ : Hid (wr.heap.size < W1.heap.size ∧ w.heap.size ≤ wr.heap.size) := Lib.hid ⟨k1.lt, HB.out.size⟩
        have P1 : Hid (PartsT W1 w.heap.size (.slice D done.length dc) done S f bs) := Lib.hid ⟨row_same P.row (fun g hg => b1.block g (P.bound g (P.sub g (.inl hg))).2), fun j hj => (P.kids j hj).kept b1.size (fun g hg => b1.block g (P.bound g (P.sub g (.inr ⟨j, hj, hg⟩))).2), P.d1, P.d2, P.sub, fun g hg => ⟨(P.bound g hg).1, by have := (P.bound g hg).2; have := b1.size; omega⟩⟩
        have K1 := Lib.hid k1
        have HSB : Hid (∀ g, S g → g < wr.heap.size) := Lib.hid (fun g hg => (P.bound g hg).2)
        clear hzs hx HGR la hbz la2 P hW1 b1 k1 HO HP HO1 HB
        rcases hcase with ⟨n3, n4, n5, n6, n7, rfl, hgr⟩ | ⟨h346, kids, r2, rfl, hgk, hgr⟩
        · have q5 : (k != 5) = true := by simpa using n5
          have q7 : (k != 7) = true := by simpa using n7
          have q3 : (k == 3) = false := by simpa using n3
          have q4 : (k == 4) = false := by simpa using n4
          have q6 : (k == 6) = false := by simpa using n6
          have HT2 : Hid (ts = (done ++ [.mk k n []]) ++ rest) := Lib.hid (by rw [HT.out, List.append_assoc]; rfl)
          have HGR2 : Hid (Grows (xs.drop (p + 1)) rest ys) := Lib.hid (by rw [hdr]; exact hgr)
          clear n3 n4 n5 n6 n7 hdr hgr HT
          go_wp2_with fail
          go_region
          rw [← HW1.out]
          have e0 : W1.cell? ⟨wr.heap.size, 0, none⟩ = some (.int .i64 k) := K1.out.cell 0
          have e1 : W1.cell? ⟨wr.heap.size, 1, none⟩ = some (.int .i32 n) := K1.out.cell 1
          have e2 : W1.cell? ⟨wr.heap.size, 2, none⟩ = some (.slice none 0 0) := K1.out.cell 2
          have HB2 := Lib.hid (HB1.out.alloc HB1.out.size (.cells #[.int .i64 k, .int .i32 n, .slice none 0 0] 83))
          have P2 := Lib.hid (P1.out.alloc (.cells #[.int .i64 k, .int .i32 n, .slice none 0 0] 83))
          have SRC := Lib.hid (src_three W1 (.int .i64 k) (.int .i32 n) (.slice none 0 0))
          clear p0z p1z p0 p1 HW1 K1 HB1 P1
          go_wp2_with (at_builtin; refine wpList_append_src rfl _ _ 26 rfl w.heap.size 83 i0 (.agg #[.int .i64 0, .int .i32 0, .slice none 0 0]) 3 40 Try.underlying26 hi0 hz0 hz1 hz2 rfl (by decide) _ done.length (trv f 0 done) rfl (P2.out.row) _ 1 [.int .i64 k, .int .i32 n, .slice none 0 0] rfl SRC.out (by simp [Value.oneCell']) (by unfold maxLen; omega) (by omega) (by have := HB2.out.size; omega) ?_; intro v9 w9 ho9 ha9; refine unstop ?_)
          refine Stop.go ?_
          have HB9 : Hid (Below w.heap.size w w9) := Lib.hid (HB2.out.grown ha9.out.grown (by have := HB2.out.size; omega) (fun k hk => (World.ownsRow.lt P2.out.row k hk).1))
          have HO9 := Lib.hid (P2.out.push (OwnT.nil _ _) (fun _ _ h => h) ho9 ha9.out)
          clear ho9 ha9 SRC
          go_wp2_with fail
          go_roundw
          case rel => exact ⟨p + 1, v9, _, rest, _, by go_num, rfl, by omega, by omega, by rw [List.length_append, List.length_singleton]; omega, HT2, HGR2, HO9, HB9⟩
          case measure => simp [intOf]; omega
        · have HT2 : Hid (ts = (done ++ [.mk k n kids]) ++ rest) := Lib.hid (by rw [HT.out, List.append_assoc]; rfl)
          have hsz := hgk.size
          have hsf := hgk.suffix
          have hrl : r.length = N - (p + 1) := by rw [← hdr, List.length_drop, HN.out]
          simp only [List.length_cons] at hsz hsf
          obtain ⟨Q, hQ⟩ : ∃ Q, N - (r2.length + 1) = Q := ⟨_, rfl⟩
          have hQ1 : p + 1 ≤ Q := by omega
          have hQN : Q < N := by omega
          have hdq : xs.drop Q = endOf k :: r2 := by
            rw [hsf, ← hdr, List.drop_drop, List.length_drop, HN.out]
            congr 1
            omega
          have HGR2 : Hid (Grows (xs.drop (Q + 1)) rest ys) := Lib.hid (by rw [(drop_cons hdq).2.2]; exact hgr)
          have HC := Lib.hid (fun v W hr => HIH.out (p + 1) (by omega) (by omega) kids (endOf k :: r2) (by rw [hdr]; exact hgk) v W hr)
          simp only [List.length_cons] at HC
          rw [hQ, show ((p + 1 : Nat) : Int) = (p : Int) + 1 by omega] at HC
          have HR1 := Lib.hid (HR.out W1 HB1.out)
          have h57 : k ≠ 5 ∧ k ≠ 7 := by omega
          clear hdr hgr HT hsz hsf hrl hQ hdq hgk HIH
          have q5 : (k != 5) = true := by simpa using h57.1
          have q7 : (k != 7) = true := by simpa using h57.2
          have q346 : (k == 3) = true ∨ ((k == 3) = false ∧ (k == 4) = true) ∨ ((k == 3) = false ∧ (k == 4) = false ∧ (k == 6) = true) := by
            simp only [beq_iff_eq, beq_eq_false_iff_ne]
            omega
          clear h57 h346
          rcases q346 with q3 | ⟨q3, q4⟩ | ⟨q3, q4, q6⟩
          all_goals
            go_wp2_with fail
            go_region
            rw [← HW1.out]
            have e0 : W1.cell? ⟨wr.heap.size, 0, none⟩ = some (.int .i64 k) := K1.out.cell 0
            clear p0z p1z p0 p1 HW1
            go_wp2_with fail
            refine (HC.out _ W1 HR1.out).mono ?_
            rintro e w2 ⟨kv, S2, rfl, ho2, hb2⟩
            obtain ⟨KA, kc, rfl⟩ := ho2.rd.form
            have K2 := Lib.hid (K1.out.below hb2 K1.out.lt)
            have HB2 := Lib.hid (HB1.out.trans (hb2.mono HB1.out.size))
            obtain ⟨W3, hW3⟩ : ∃ W, W = w2.setCell ⟨wr.heap.size, 2, none⟩ (.slice KA kids.length kc) := ⟨_, rfl⟩
            have hg3 : w2.grownBy W3 (some wr.heap.size) := by rw [hW3]; exact only_setCell (World.grownBy.refl _ _) (.inl rfl) _
            have zz1 := HZ.out.1
            have zz2 := HZ.out.2
            have zz3 := hb2.size
            have k3 : Blk W3 wr.heap.size 83 #[.int .i64 k, .int .i32 n, .slice KA kids.length kc] := by rw [hW3]; exact K2.out.put 2 _
            have HB3 : Hid (Below w.heap.size w W3) := Lib.hid (by rw [hW3]; exact HB2.out.setCell (p := ⟨wr.heap.size, 2, none⟩) zz2 _)
            have P3 : Hid (PartsT W3 w.heap.size (.slice D done.length dc) done S f bs) := Lib.hid (P1.out.kept (by have := hg3.size; omega) (fun g hg => (hg3.block g (by have := (P1.out.bound g hg).2; omega) (fun e => by injection e with e; have := HSB.out g hg; omega)).trans (hb2.block g (P1.out.bound g hg).2)))
            have hk3 : OwnT W3 w.heap.size (.slice KA kids.length kc) kids S2 := (ho2.kept hg3.size (fun g hg => hg3.block g (ho2.bound g hg).2 (fun e => by injection e with e; have := (ho2.bound g hg).1; omega))).mono (by omega)
            have HDIS : Hid (∀ g, S g → ¬ S2 g) := Lib.hid (fun g hg h2 => by have := HSB.out g hg; have := (ho2.bound g h2).1; omega)
            have e0 : W3.cell? ⟨wr.heap.size, 0, none⟩ = some (.int .i64 k) := k3.cell 0
            have e1 : W3.cell? ⟨wr.heap.size, 1, none⟩ = some (.int .i32 n) := k3.cell 1
            have e2 : W3.cell? ⟨wr.heap.size, 2, none⟩ = some (.slice KA kids.length kc) := k3.cell 2
            have g0 : w2.cell? ⟨wr.heap.size, 0, none⟩ = some (.int .i64 k) := K2.out.cell 0
            have g1 : w2.cell? ⟨wr.heap.size, 1, none⟩ = some (.int .i32 n) := K2.out.cell 1
            have lz2 : wr.heap.size < W3.heap.size := k3.lt
            have g2 : w2.cell? ⟨wr.heap.size, 2, none⟩ = some (.slice none 0 0) := K2.out.cell 2
            have gf : w2.frozen? ⟨wr.heap.size, 2, none⟩ = false := K2.out.frozen 2
            have HW3 := Lib.hid hW3
            have HB4 := Lib.hid (HB3.out.alloc HB3.out.size (.cells #[.int .i64 k, .int .i32 n, .slice KA kids.length kc] 83))
            have P4 := Lib.hid (P3.out.alloc (.cells #[.int .i64 k, .int .i32 n, .slice KA kids.length kc] 83))
            have HK4 := Lib.hid (hk3.stay (below_alloc1 W3 (.cells #[.int .i64 k, .int .i32 n, .slice KA kids.length kc] 83)))
            have SRC := Lib.hid (src_three W3 (.int .i64 k) (.int .i32 n) (.slice KA kids.length kc))
            clear ho2 hb2 K1 K2 HB1 HB2 HB3 P1 P3 hk3 hg3 hW3 k3 zz1 zz2 zz3 HC HR1 HSB
            go_upto_region 7 with (fail)
            rw [← HW3.out]
            clear g0 g1 g2 gf
            go_wp2_with (at_builtin; refine wpList_append_src rfl _ _ 26 rfl w.heap.size 83 i0 (.agg #[.int .i64 0, .int .i32 0, .slice none 0 0]) 3 40 Try.underlying26 hi0 hz0 hz1 hz2 rfl (by decide) _ done.length (trv f 0 done) rfl (P4.out.row) _ 1 [.int .i64 k, .int .i32 n, .slice KA kids.length kc] rfl SRC.out (by simp [Value.oneCell']) (by unfold maxLen; omega) (by omega) (by have := HB4.out.size; omega) ?_; intro v9 w9 ho9 ha9; refine unstop ?_)
            refine Stop.go ?_
            have HB9 : Hid (Below w.heap.size w w9) := Lib.hid (HB4.out.grown ha9.out.grown (by have := HB4.out.size; omega) (fun k hk => (World.ownsRow.lt P4.out.row k hk).1))
            have HO9 := Lib.hid (P4.out.push HK4.out HDIS.out ho9 ha9.out)
            clear ho9 ha9 SRC
            go_wp2_with fail
            go_roundw
            case rel => exact ⟨Q + 1, v9, _, rest, _, by go_num, rfl, by omega, by omega, by rw [List.length_append, List.length_singleton]; omega, HT2, HGR2, HO9, HB9⟩
            case measure => simp [intOf]; omega
/-- What TreeOf tells of ops. -/
def TreesOf (xs : List (Int × Int)) (ts : List Tr) : Prop := (shapeB xs = true ∧ Grows xs ts []) ∨ (shapeB xs = false ∧ ts = [])
theorem treesOf_any (xs : List (Int × Int)) : ∃ ts, TreesOf xs ts := by
  cases h : shapeB xs with
  | true =>
    obtain ⟨ts, g⟩ := shape_grows h
    exact ⟨ts, .inl ⟨h, g⟩⟩
  | false => exact ⟨[], .inr ⟨h, rfl⟩⟩
theorem shape_len {xs : List (Int × Int)} (h : shapeB xs = true) : xs.length ≤ 60 ∧ xs.all okOp = true := by
  unfold shapeB at h
  simp only [Bool.and_eq_true, decide_eq_true_eq] at h
  exact ⟨h.1, h.2.1⟩
theorem TreesOf.size {xs : List (Int × Int)} {ts : List Tr} (h : TreesOf xs ts) : sizeL ts ≤ 60 := by
  rcases h with ⟨h, g⟩ | ⟨-, rfl⟩
  · have := g.size; have := (shape_len h).1; omega
  · simp [sizeL]
/-- A list of trees of one's own. -/
def NewT (ts : List Tr) (w : World) (e : Ending) (w' : World) : Prop := ∃ u S, e = .returned u ∧ OwnT w' w.heap.size u ts S ∧ Below w.heap.size w w'
set_option maxHeartbeats 2000000 in
theorem spec_treeof (xs : List (Int × Int)) (hrg : RngO xs) (ts : List Tr) (h : TreesOf xs ts) (v : Value) (w : World) (hr : RdS w v xs) : Calls Try.prog 26 #[v] w (NewT ts w) := by
  have HS := Lib.hid (spec_shape xs hrg v w hr)
  have HR := Lib.hid (fun W (h : Below w.heap.size w W) => hr.below h)
  rcases h with ⟨hs, hg⟩ | ⟨hs, rfl⟩
  · have HC := Lib.hid (fun W hr => spec_treesL (xs.length + 1) xs (shape_len hs).1 0 ts [] (by simpa using hg) (Nat.zero_le _) (by omega) v W hr)
    rw [hs] at HS
    clear hr hrg hg hs
    go_enter Try.func26, Try.ntmps26
    go_wp2_with fail
    refine HS.out.mono ?_
    rintro e w2 ⟨rfl, hb2⟩
    have HB2 := Lib.hid hb2
    clear hb2 HS
    go_wp2_with fail
    refine (HC.out w2 (HR.out _ HB2.out)).mono ?_
    rintro e w3 ⟨u, S, rfl, ho3, hb3⟩
    have HO := Lib.hid (ho3.mono HB2.out.size)
    have HB3 := Lib.hid (HB2.out.trans (hb3.mono HB2.out.size))
    clear ho3 hb3 HC
    go_wp2_with fail
    go_ret
    exact ⟨u, S, rfl, HO.out, HB3.out⟩
  · rw [hs] at HS
    clear hr hrg hs HR
    go_enter Try.func26, Try.ntmps26
    go_wp2_with fail
    refine HS.out.mono ?_
    rintro e w2 ⟨rfl, hb2⟩
    have HB2 := Lib.hid hb2
    clear hb2 HS
    go_wp2_with fail
    go_ret
    exact ⟨_, _, rfl, OwnT.nil _ _, HB2.out⟩
end Go.Proofs.Ytlkkobffgbjkpaa
