/-
  spec.l09Trees, spec.TreeOf.
  spec.CodeOf.
  laws.FnExactCodeOf answers true at every list of definitions, with tails and without.
-/
import Derived.Test.YtofikgjoiidhmaaCO8
import Derived.Test.YtofikgjoiidhmaaCO2
import Derived.Test.YtofikgjoiidhmaaCO1
import Derived.Test.YtofikgjoiidhmaaCO6
import Derived.IntWalk
import Derived.Deep.Cut
import Derived.Test.YtofikgjoiidhmaaCO10
import Derived.Test.YtofikgjoiidhmaaCO9
namespace Go.Proofs.Ytofikgjoiidhmaa
open Go.RowKit Go

theorem infoTr : (Try.prog.info? 77).map (fun i => (i.zero, i.size, i.bytes)) = some (some (.agg #[.int .i64 0, .int .i32 0, .slice none 0 0]), 3, 40) := by kernel_rfl
/-- What the functions that make trees of ops tell: trees of one's own, and a place. -/
def TreesEnd (ts : List Tr) (j : Nat) (w : World) (e : Ending) (w' : World) : Prop :=
  ∃ u S, e = .returned (.tuple #[u, .int .i64 (j : Int)]) ∧ OwnT w' w.heap.size u ts S ∧ Below w.heap.size w w'
/-- Room for none, at first. -/
theorem own_emptyT (w : World) : (w.alloc (.cells #[] 77)).ownsRow w.heap.size 77 3 (.slice (some ⟨w.heap.size, 0, none⟩) 0 0) 0 [] :=
  ⟨rfl, .inr ⟨w.heap.size, 0, #[], rfl, Nat.le_refl _, heap_alloc_new w _, Nat.le_refl _, Nat.zero_le _, rfl, rfl⟩⟩
theorem grows_nil {zs : List (Int × Int)} {ys : List (Int × Int)} (h : Grows zs [] ys) : ys = zs ∧ ∀ o r, zs = o :: r → o.1 = 5 ∨ o.1 = 7 := by
  cases h with
  | stop xs h => exact ⟨rfl, h⟩
theorem grows_cons {zs ys : List (Int × Int)} {t : Tr} {ts : List Tr} (h : Grows zs (t :: ts) ys) : ∃ k n r, zs = (k, n) :: r ∧
    ((k ≠ 3 ∧ k ≠ 4 ∧ k ≠ 5 ∧ k ≠ 6 ∧ k ≠ 7 ∧ t = .mk k n [] ∧ Grows r ts ys) ∨ ((k = 3 ∨ k = 4 ∨ k = 6) ∧ ∃ kids r2, t = .mk k n kids ∧ Grows r kids (endOf k :: r2) ∧ Grows r2 ts ys)) := by
  cases h with
  | leaf o r ys ts h g => exact ⟨o.1, o.2, r, rfl, .inl ⟨h.1, h.2.1, h.2.2.1, h.2.2.2.1, h.2.2.2.2, rfl, g⟩⟩
  | nest o r r2 ys kids ts h gk g => exact ⟨o.1, o.2, r, rfl, .inr ⟨h, kids, r2, rfl, gk, g⟩⟩
theorem drop_cons {xs r : List (Int × Int)} {p : Nat} {o : Int × Int} (h : xs.drop p = o :: r) : ∃ hp : p < xs.length, xs[p] = o ∧ xs.drop (p + 1) = r := by
  have hp : p < xs.length := by
    rcases Nat.lt_or_ge p xs.length with h2 | h2
    · exact h2
    · rw [List.drop_of_length_le h2] at h; cases h
  rw [List.drop_eq_getElem_cons hp] at h
  injection h with h1 h2
  exact ⟨hp, h1, h2⟩

theorem PartsT.alloc {w : World} {base : Nat} {v : Value} {xs : List Tr} {S : Nat → Prop} {f : Nat → Value} {bs : Nat → Nat → Prop} (P : PartsT w base v xs S f bs) (o : Obj) : PartsT (w.alloc o) base v xs S f bs := by
  have b1 : Below w.heap.size w (w.alloc o) := below_alloc1 w o
  exact ⟨row_same P.row (fun g hg => b1.block g (P.bound g (P.sub g (.inl hg))).2), fun j hj => (P.kids j hj).kept b1.size (fun g hg => b1.block g (P.bound g (P.sub g (.inr ⟨j, hj, hg⟩))).2), P.d1, P.d2, P.sub, fun g hg => ⟨(P.bound g hg).1, by have := (P.bound g hg).2; have := b1.size; omega⟩⟩
theorem src_three (w : World) (a b c : Value) : SrcAt (w.alloc (.cells #[a, b, c] 77)) 3 (.slice (some ⟨w.heap.size, 0, none⟩) 1 1) 1 [a, b, c] := by
  refine ⟨_, _, rfl, rfl, fun h => by simp at h, fun q hq j x hj => ?_⟩
  obtain rfl : q = ⟨w.heap.size, 0, none⟩ := by injection hq with hq; exact hq.symm
  rw [addr_lit, cell_of_row _ w.heap.size (0 + j) #[a, b, c] 77 (0, 0) (heap_alloc_new w _), Nat.zero_add]
  simpa using hj
set_option maxRecDepth 100000 in
set_option maxHeartbeats 4000000 in
theorem spec_treesL : ∀ (M : Nat) (xs : List (Int × Int)), xs.length ≤ 60 → ∀ (i : Nat) (ts : List Tr) (ys : List (Int × Int)), Grows (xs.drop i) ts ys → i ≤ xs.length → xs.length - i < M → ∀ (v : Value) (w : World), RdS w v xs →
    Calls Try.prog 41 #[v, .int .i64 i] w (TreesEnd ts (xs.length - ys.length) w) := by
  intro M
  induction M with
  | zero => intro xs hl i ts ys hg hi hM; omega
  | succ M ih =>
    intro xs hl i ts ys hg hi hM v w hr
    obtain ⟨A, cap, rfl⟩ := hr.form
    obtain ⟨i0, hi0, hz0, hz1, hz2⟩ := info_parts infoTr
    have HR := Lib.hid (fun W (h : Below w.heap.size w W) => hr.below h)
    have HIH := Lib.hid (fun p (h1 : i < p) (h2 : p ≤ xs.length) kids zs (hg : Grows (xs.drop p) kids zs) v W hr => ih xs hl p kids zs hg h2 (by omega) v W hr)
    have HG := Lib.hid hg
    have ST := Lib.hid (OwnT.empty (own_emptyT w))
    have BEL := Lib.hid (below_alloc1 w (.cells #[] 77))
    obtain ⟨N, hN⟩ : ∃ N, xs.length = N := ⟨_, rfl⟩
    have HN := Lib.hid hN
    obtain ⟨j, hj⟩ : ∃ j, N - ys.length = j := ⟨_, rfl⟩
    have HJ := Lib.hid hj
    rw [hN] at hl hi HIH HR ⊢
    rw [hj]
    clear hr ih hg hM hN hj
    go_enter Try.func41, Try.ntmps41
    go_wp2_with fail
    go_loopw [1, 6] (fun vp vo wr => ∃ (p : Nat) (u : Value) (done rest : List Tr) (S : Nat → Prop), vp = .int .i64 p ∧ vo = u ∧ i ≤ p ∧ p ≤ N ∧ done.length ≤ p ∧ Hid (ts = done ++ rest) ∧ Hid (Grows (xs.drop p) rest ys) ∧ Hid (OwnT wr w.heap.size u done S) ∧ Hid (Below w.heap.size w wr)) (fun vp _ _ => N - (intOf vp).toNat)
    case atStart => exact ⟨i, _, [], ts, _, rfl, rfl, Nat.le_refl _, hi, by simp, Lib.hid rfl, HG, ST, BEL⟩
    case round =>
      obtain ⟨p, u, done, rest, S, rfl, rfl, hip, hp, hdp, HT, HGR, HO, HB⟩ := hrel
      clear ST BEL HG
      cases rest with
      | nil =>
        obtain ⟨hys, hstop⟩ := grows_nil HGR.out
        have hjp : j = p := by have := HJ.out; rw [hys, List.length_drop, HN.out] at this; omega
        have HTT : Hid (ts = done) := Lib.hid (by rw [HT.out]; simp)
        subst hjp
        by_cases hlt : j < N
        · obtain ⟨a, rfl, la, p0, p1⟩ := (HR.out wr HB.out).item (i := j) (by rw [HN.out]; exact hlt)
          have hk := hstop (xs[j]'(by rw [HN.out]; exact hlt)) (xs.drop (j + 1)) (List.drop_eq_getElem_cons _)
          obtain ⟨x, hx⟩ : ∃ x, xs[j]'(by rw [HN.out]; exact hlt) = x := ⟨_, rfl⟩
          obtain ⟨k, n⟩ := x
          rw [hx] at p0 p1 hk
          simp only at p0 p1 hk
          have i1 : (0 : Int) ≤ (j : Int) := by omega
          have i2 : (j : Int) < (N : Int) := by omega
          clear hstop hys hx HT HGR la
          rcases hk with rfl | rfl
          all_goals
            go_wp2_with fail
            go_ret2
            exact ⟨_, S, rfl, by rw [HTT.out]; exact HO.out, HB.out⟩
        · have i2 : ¬ (j : Int) < (N : Int) := by omega
          clear hstop hys HT HGR
          go_wp2_with fail
          go_ret2
          exact ⟨_, S, rfl, by rw [HTT.out]; exact HO.out, HB.out⟩
      | cons t rest =>
        obtain ⟨f, bs, P⟩ := HO.out.parts
        obtain ⟨D, dc, rfl⟩ := own_formS P.row
        obtain ⟨k, n, r, hzs, hcase⟩ := grows_cons HGR.out
        obtain ⟨hlt, hx, hdr⟩ := drop_cons hzs
        obtain ⟨a, rfl, la, p0, p1⟩ := (HR.out wr HB.out).item hlt
        rw [hx] at p0 p1
        simp only at p0 p1
        rw [HN.out] at hlt
        have i1 : (0 : Int) ≤ (p : Int) := by omega
        have i2 : (p : Int) < (N : Int) := by omega
        have hbz := below_alloc1 wr (.cells #[.int .i64 0, .int .i32 0, .slice none 0 0] 77)
        have la2 : (a.add (p * 2)).block < wr.heap.size := by rw [addr_addb]; exact la
        have p0z : (wr.alloc (.cells #[.int .i64 0, .int .i32 0, .slice none 0 0] 77)).cell? (a.add (p * 2)) = some (.int .i64 k) := (hbz.cell la2).trans p0
        have p1z : (wr.alloc (.cells #[.int .i64 0, .int .i32 0, .slice none 0 0] 77)).cell? ⟨(a.add (p * 2)).block, (a.add (p * 2)).off + 1, none⟩ = some (.int .i32 n) := (hbz.cell (p := ⟨(a.add (p * 2)).block, (a.add (p * 2)).off + 1, none⟩) la2).trans p1
        obtain ⟨W1, hW1⟩ : ∃ W, W = (wr.alloc (.cells #[.int .i64 k, .int .i32 n, .slice none 0 0] 77)).drew := ⟨_, rfl⟩
        have b1 : Below wr.heap.size wr W1 := by rw [hW1]; exact (below_alloc1 wr _).drew
        have k1 : Blk W1 wr.heap.size 77 #[.int .i64 k, .int .i32 n, .slice none 0 0] := by rw [hW1]; exact (Blk.new wr _ _).drew
        have HB1 := Lib.hid (HB.out.trans (b1.mono HB.out.size))
        have HW1 := Lib.hid hW1
        have HP := Lib.hid P
        have HO1 := Lib.hid (HO.out.kept b1.size (fun g hg => b1.block g (HO.out.bound g hg).2))
        have hdN : done.length ≤ 60 := by omega
        have HZ : Hid (wr.heap.size < W1.heap.size ∧ w.heap.size ≤ wr.heap.size) := Lib.hid ⟨k1.lt, HB.out.size⟩
        have P1 : Hid (PartsT W1 w.heap.size (.slice D done.length dc) done S f bs) := Lib.hid ⟨row_same P.row (fun g hg => b1.block g (P.bound g (P.sub g (.inl hg))).2), fun j hj => (P.kids j hj).kept b1.size (fun g hg => b1.block g (P.bound g (P.sub g (.inr ⟨j, hj, hg⟩))).2), P.d1, P.d2, P.sub, fun g hg => ⟨(P.bound g hg).1, by have := (P.bound g hg).2; have := b1.size; omega⟩⟩
        have K1 := Lib.hid k1
        have HSB : Hid (∀ g, S g → g < wr.heap.size) := Lib.hid (fun g hg => (P.bound g hg).2)
        clear hzs hx HGR la hbz la2 P hW1 b1 k1 HO HP HO1 HB
        rcases hcase with ⟨n3, n4, n5, n6, n7, rfl, hgr⟩ | ⟨h346, kids, r2, rfl, hgk, hgr⟩
        · have q5 : (k != 5) = true := by simpa using n5
          have q7 : (k != 7) = true := by simpa using n7
          have q3 : (k == 3) = false := by simpa using n3
          have q4 : (k == 4) = false := by simpa using n4
          have q6 : (k == 6) = false := by simpa using n6
          have HT2 : Hid (ts = (done ++ [.mk k n []]) ++ rest) := Lib.hid (by rw [HT.out, List.append_assoc]; rfl)
          have HGR2 : Hid (Grows (xs.drop (p + 1)) rest ys) := Lib.hid (by rw [hdr]; exact hgr)
          clear n3 n4 n5 n6 n7 hdr hgr HT
          go_wp2_with fail
          go_region
          rw [← HW1.out]
          have e0 : W1.cell? ⟨wr.heap.size, 0, none⟩ = some (.int .i64 k) := K1.out.cell 0
          have e1 : W1.cell? ⟨wr.heap.size, 1, none⟩ = some (.int .i32 n) := K1.out.cell 1
          have e2 : W1.cell? ⟨wr.heap.size, 2, none⟩ = some (.slice none 0 0) := K1.out.cell 2
          have HB2 := Lib.hid (HB1.out.alloc HB1.out.size (.cells #[.int .i64 k, .int .i32 n, .slice none 0 0] 77))
          have P2 := Lib.hid (P1.out.alloc (.cells #[.int .i64 k, .int .i32 n, .slice none 0 0] 77))
          have SRC := Lib.hid (src_three W1 (.int .i64 k) (.int .i32 n) (.slice none 0 0))
          clear p0z p1z p0 p1 HW1 K1 HB1 P1
          go_wp2_with (at_builtin; refine wpList_append_src rfl _ _ 48 rfl w.heap.size 77 i0 (.agg #[.int .i64 0, .int .i32 0, .slice none 0 0]) 3 40 Try.underlying48 hi0 hz0 hz1 hz2 rfl (by decide) _ done.length (trv f 0 done) rfl (P2.out.row) _ 1 [.int .i64 k, .int .i32 n, .slice none 0 0] rfl SRC.out (by simp [Value.oneCell']) (by unfold maxLen; omega) (by omega) (by have := HB2.out.size; omega) ?_; intro v9 w9 ho9 ha9; refine unstop ?_)
          refine Stop.go ?_
          have HB9 : Hid (Below w.heap.size w w9) := Lib.hid (HB2.out.grown ha9.out.grown (by have := HB2.out.size; omega) (fun k hk => (World.ownsRow.lt P2.out.row k hk).1))
          have HO9 := Lib.hid (P2.out.push (OwnT.nil _ _) (fun _ _ h => h) ho9 ha9.out)
          clear ho9 ha9 SRC
          go_wp2_with fail
          go_roundw
          case rel => exact ⟨p + 1, v9, _, rest, _, by go_num, rfl, by omega, by omega, by rw [List.length_append, List.length_singleton]; omega, HT2, HGR2, HO9, HB9⟩
          case measure => simp [intOf]; omega
        · have HT2 : Hid (ts = (done ++ [.mk k n kids]) ++ rest) := Lib.hid (by rw [HT.out, List.append_assoc]; rfl)
          have hsz := hgk.size
          have hsf := hgk.suffix
          have hrl : r.length = N - (p + 1) := by rw [← hdr, List.length_drop, HN.out]
          simp only [List.length_cons] at hsz hsf
          obtain ⟨Q, hQ⟩ : ∃ Q, N - (r2.length + 1) = Q := ⟨_, rfl⟩
          have hQ1 : p + 1 ≤ Q := by omega
          have hQN : Q < N := by omega
          have hdq : xs.drop Q = endOf k :: r2 := by
            rw [hsf, ← hdr, List.drop_drop, List.length_drop, HN.out]
            congr 1
            omega
          have HGR2 : Hid (Grows (xs.drop (Q + 1)) rest ys) := Lib.hid (by rw [(drop_cons hdq).2.2]; exact hgr)
          have HC := Lib.hid (fun v W hr => HIH.out (p + 1) (by omega) (by omega) kids (endOf k :: r2) (by rw [hdr]; exact hgk) v W hr)
          simp only [List.length_cons] at HC
          rw [hQ, show ((p + 1 : Nat) : Int) = (p : Int) + 1 by omega] at HC
          have HR1 := Lib.hid (HR.out W1 HB1.out)
          have h57 : k ≠ 5 ∧ k ≠ 7 := by omega
          clear hdr hgr HT hsz hsf hrl hQ hdq hgk HIH
          have q5 : (k != 5) = true := by simpa using h57.1
          have q7 : (k != 7) = true := by simpa using h57.2
          have q346 : (k == 3) = true ∨ ((k == 3) = false ∧ (k == 4) = true) ∨ ((k == 3) = false ∧ (k == 4) = false ∧ (k == 6) = true) := by
            simp only [beq_iff_eq, beq_eq_false_iff_ne]
            omega
          clear h57 h346
          rcases q346 with q3 | ⟨q3, q4⟩ | ⟨q3, q4, q6⟩
          all_goals
            go_wp2_with fail
            go_region
            rw [← HW1.out]
            have e0 : W1.cell? ⟨wr.heap.size, 0, none⟩ = some (.int .i64 k) := K1.out.cell 0
            clear p0z p1z p0 p1 HW1
            go_wp2_with fail
            refine (HC.out _ W1 HR1.out).mono ?_
            rintro e w2 ⟨kv, S2, rfl, ho2, hb2⟩
            obtain ⟨KA, kc, rfl⟩ := ho2.rd.form
            have K2 := Lib.hid (K1.out.below hb2 K1.out.lt)
            have HB2 := Lib.hid (HB1.out.trans (hb2.mono HB1.out.size))
            obtain ⟨W3, hW3⟩ : ∃ W, W = w2.setCell ⟨wr.heap.size, 2, none⟩ (.slice KA kids.length kc) := ⟨_, rfl⟩
            have hg3 : w2.grownBy W3 (some wr.heap.size) := by rw [hW3]; exact only_setCell (World.grownBy.refl _ _) (.inl rfl) _
            have zz1 := HZ.out.1
            have zz2 := HZ.out.2
            have zz3 := hb2.size
            have k3 : Blk W3 wr.heap.size 77 #[.int .i64 k, .int .i32 n, .slice KA kids.length kc] := by rw [hW3]; exact K2.out.put 2 _
            have HB3 : Hid (Below w.heap.size w W3) := Lib.hid (by rw [hW3]; exact HB2.out.setCell (p := ⟨wr.heap.size, 2, none⟩) zz2 _)
            have P3 : Hid (PartsT W3 w.heap.size (.slice D done.length dc) done S f bs) := Lib.hid (P1.out.kept (by have := hg3.size; omega) (fun g hg => (hg3.block g (by have := (P1.out.bound g hg).2; omega) (fun e => by injection e with e; have := HSB.out g hg; omega)).trans (hb2.block g (P1.out.bound g hg).2)))
            have hk3 : OwnT W3 w.heap.size (.slice KA kids.length kc) kids S2 := (ho2.kept hg3.size (fun g hg => hg3.block g (ho2.bound g hg).2 (fun e => by injection e with e; have := (ho2.bound g hg).1; omega))).mono (by omega)
            have HDIS : Hid (∀ g, S g → ¬ S2 g) := Lib.hid (fun g hg h2 => by have := HSB.out g hg; have := (ho2.bound g h2).1; omega)
            have e0 : W3.cell? ⟨wr.heap.size, 0, none⟩ = some (.int .i64 k) := k3.cell 0
            have e1 : W3.cell? ⟨wr.heap.size, 1, none⟩ = some (.int .i32 n) := k3.cell 1
            have e2 : W3.cell? ⟨wr.heap.size, 2, none⟩ = some (.slice KA kids.length kc) := k3.cell 2
            have g0 : w2.cell? ⟨wr.heap.size, 0, none⟩ = some (.int .i64 k) := K2.out.cell 0
            have g1 : w2.cell? ⟨wr.heap.size, 1, none⟩ = some (.int .i32 n) := K2.out.cell 1
            have lz2 : wr.heap.size < W3.heap.size := k3.lt
            have g2 : w2.cell? ⟨wr.heap.size, 2, none⟩ = some (.slice none 0 0) := K2.out.cell 2
            have gf : w2.frozen? ⟨wr.heap.size, 2, none⟩ = false := K2.out.frozen 2
            have HW3 := Lib.hid hW3
            have HB4 := Lib.hid (HB3.out.alloc HB3.out.size (.cells #[.int .i64 k, .int .i32 n, .slice KA kids.length kc] 77))
            have P4 := Lib.hid (P3.out.alloc (.cells #[.int .i64 k, .int .i32 n, .slice KA kids.length kc] 77))
            have HK4 := Lib.hid (hk3.stay (below_alloc1 W3 (.cells #[.int .i64 k, .int .i32 n, .slice KA kids.length kc] 77)))
            have SRC := Lib.hid (src_three W3 (.int .i64 k) (.int .i32 n) (.slice KA kids.length kc))
            clear ho2 hb2 K1 K2 HB1 HB2 HB3 P1 P3 hk3 hg3 hW3 k3 zz1 zz2 zz3 HC HR1 HSB
            go_upto_region 7 with (fail)
            rw [← HW3.out]
            clear g0 g1 g2 gf
            go_wp2_with (at_builtin; refine wpList_append_src rfl _ _ 48 rfl w.heap.size 77 i0 (.agg #[.int .i64 0, .int .i32 0, .slice none 0 0]) 3 40 Try.underlying48 hi0 hz0 hz1 hz2 rfl (by decide) _ done.length (trv f 0 done) rfl (P4.out.row) _ 1 [.int .i64 k, .int .i32 n, .slice KA kids.length kc] rfl SRC.out (by simp [Value.oneCell']) (by unfold maxLen; omega) (by omega) (by have := HB4.out.size; omega) ?_; intro v9 w9 ho9 ha9; refine unstop ?_)
            refine Stop.go ?_
            have HB9 : Hid (Below w.heap.size w w9) := Lib.hid (HB4.out.grown ha9.out.grown (by have := HB4.out.size; omega) (fun k hk => (World.ownsRow.lt P4.out.row k hk).1))
            have HO9 := Lib.hid (P4.out.push HK4.out HDIS.out ho9 ha9.out)
            clear ho9 ha9 SRC
            go_wp2_with fail
            go_roundw
            case rel => exact ⟨Q + 1, v9, _, rest, _, by go_num, rfl, by omega, by omega, by rw [List.length_append, List.length_singleton]; omega, HT2, HGR2, HO9, HB9⟩
            case measure => simp [intOf]; omega
/-- What TreeOf tells of ops. -/
def TreesOf (xs : List (Int × Int)) (ts : List Tr) : Prop := (shapeB xs = true ∧ Grows xs ts []) ∨ (shapeB xs = false ∧ ts = [])
theorem treesOf_any (xs : List (Int × Int)) : ∃ ts, TreesOf xs ts := by
  cases h : shapeB xs with
  | true =>
    obtain ⟨ts, g⟩ := shape_grows h
    exact ⟨ts, .inl ⟨h, g⟩⟩
  | false => exact ⟨[], .inr ⟨h, rfl⟩⟩
theorem shape_len {xs : List (Int × Int)} (h : shapeB xs = true) : xs.length ≤ 60 ∧ xs.all okOp = true := by
  unfold shapeB at h
  simp only [Bool.and_eq_true, decide_eq_true_eq] at h
  exact ⟨h.1, h.2.1⟩
theorem TreesOf.size {xs : List (Int × Int)} {ts : List Tr} (h : TreesOf xs ts) : sizeL ts ≤ 60 := by
  rcases h with ⟨h, g⟩ | ⟨-, rfl⟩
  · have := g.size; have := (shape_len h).1; omega
  · simp [sizeL]
/-- A list of trees of one's own. -/
def NewT (ts : List Tr) (w : World) (e : Ending) (w' : World) : Prop := ∃ u S, e = .returned u ∧ OwnT w' w.heap.size u ts S ∧ Below w.heap.size w w'
set_option maxHeartbeats 2000000 in
theorem spec_treeof (xs : List (Int × Int)) (hrg : RngO xs) (ts : List Tr) (h : TreesOf xs ts) (v : Value) (w : World) (hr : RdS w v xs) : Calls Try.prog 24 #[v] w (NewT ts w) := by
  have HS := Lib.hid (spec_shape xs hrg v w hr)
  have HR := Lib.hid (fun W (h : Below w.heap.size w W) => hr.below h)
  rcases h with ⟨hs, hg⟩ | ⟨hs, rfl⟩
  · have HC := Lib.hid (fun W hr => spec_treesL (xs.length + 1) xs (shape_len hs).1 0 ts [] (by simpa using hg) (Nat.zero_le _) (by omega) v W hr)
    rw [hs] at HS
    clear hr hrg hg hs
    go_enter Try.func24, Try.ntmps24
    go_wp2_with fail
    refine HS.out.mono ?_
    rintro e w2 ⟨rfl, hb2⟩
    have HB2 := Lib.hid hb2
    clear hb2 HS
    go_wp2_with fail
    refine (HC.out w2 (HR.out _ HB2.out)).mono ?_
    rintro e w3 ⟨u, S, rfl, ho3, hb3⟩
    have HO := Lib.hid (ho3.mono HB2.out.size)
    have HB3 := Lib.hid (HB2.out.trans (hb3.mono HB2.out.size))
    clear ho3 hb3 HC
    go_wp2_with fail
    go_ret
    exact ⟨u, S, rfl, HO.out, HB3.out⟩
  · rw [hs] at HS
    clear hr hrg hs HR
    go_enter Try.func24, Try.ntmps24
    go_wp2_with fail
    refine HS.out.mono ?_
    rintro e w2 ⟨rfl, hb2⟩
    have HB2 := Lib.hid hb2
    clear hb2 HS
    go_wp2_with fail
    go_ret
    exact ⟨_, _, rfl, OwnT.nil _ _, HB2.out⟩
end Go.Proofs.Ytofikgjoiidhmaa

namespace Go.Proofs.Ytofikgjoiidhmaa
open Go.RowKit Go

theorem start_fun (l : List Nat) : (fun k => (natI l).getD k 0) = startI l := by
  funext k
  unfold natI startI
  rw [List.getD, List.getElem?_map]
  cases l[k]? <;> rfl
theorem row_keepC {w w' : World} {base size : Nat} {e : TypeId} {v : Value} {n : Nat} {xs : List Value} (h : w.ownsRow base e size v n xs) (hb : Below w.heap.size w w') : w'.ownsRow base e size v n xs := row_sameM h (fun g hg => hb.block g (World.ownsRow.lt h g hg).2)
theorem own_emptyC (w : World) (e : TypeId) : (w.alloc (.cells #[] e)).ownsRow w.heap.size e 1 (.slice (some ⟨w.heap.size, 0, none⟩) 0 0) 0 [] :=
  ⟨rfl, .inr ⟨w.heap.size, 0, #[], rfl, Nat.le_refl _, heap_alloc_new w _, Nat.le_refl _, Nat.zero_le _, rfl, rfl⟩⟩
theorem own_emptyC2 (w : World) : (w.alloc (.cells #[] 55)).ownsRow w.heap.size 55 2 (.slice (some ⟨w.heap.size, 0, none⟩) 0 0) 0 [] :=
  ⟨rfl, .inr ⟨w.heap.size, 0, #[], rfl, Nat.le_refl _, heap_alloc_new w _, Nat.le_refl _, Nat.zero_le _, rfl, rfl⟩⟩
theorem spec_codeof_not (ds : List Df) (hsm : SmD ds) (hok : okDefs ds = false) (tail : Bool) (v : Value) (w : World) (hr : RdD w v ds) : Calls Try.prog 6 #[v, .bool tail] w (CodeEnd w [] []) := by
  have HD := Lib.hid (spec_defs ds hsm v w hr)
  rw [hok] at HD
  obtain ⟨A, cap, rfl⟩ := hr.form
  obtain ⟨N, hN⟩ : ∃ N, ds.length = N := ⟨_, rfl⟩
  rw [hN] at HD ⊢
  clear hr hok hsm hN
  go_enter Try.func6, Try.ntmps6
  go_wp2_with fail
  refine HD.out.mono ?_
  rintro e w2 ⟨rfl, hb2⟩
  have HB2 := Lib.hid hb2
  clear hb2
  go_wp2_with fail
  go_ret2
  exact ⟨_, _, rfl, World.ownsRow_nil _ _ _ _, World.ownsRow_nil _ _ _ _, HB2.out⟩
set_option maxRecDepth 100000 in
set_option maxHeartbeats 8000000 in
theorem spec_codeof (ds : List Df) (hsm : SmD ds) (hok : okDefs ds = true) (tss : List (List Tr)) (hM : MadeC ds tss) (tail : Bool) (v : Value) (w : World) (hr : RdD w v ds) : Calls Try.prog 6 #[v, .bool tail] w (CodeEnd w (codeV tail tss) (natI (startsL tail 0 tss))) := by
  have HD := Lib.hid (spec_defs ds hsm v w hr)
  rw [hok] at HD
  have HR := Lib.hid (fun W (h : Below w.heap.size w W) => hr.below h)
  obtain ⟨A, cap, rfl⟩ := hr.form
  have hN24 : ds.length ≤ 24 := (okDefs_len2 hok).1
  have HMD := Lib.hid hM
  have HTS : Hid (∀ i (hi : i < ds.length), ∃ ts, tss[i]? = some ts ∧ sizeL ts ≤ 60 ∧ lfL ts = true ∧ (∀ o ∈ flatL ts, OpFit ds.length o) ∧ widesL tail (tss.take (i + 1)) = widesL tail (tss.take i) + wideL tail false ts ∧ ∀ u W, RdS W u ds[i].2 → Calls Try.prog 24 #[u] W (NewT ts W)) := Lib.hid (fun i hi => by
    obtain ⟨ts, h1, g⟩ := hM.of.get hi
    have he := hM.each ts (List.mem_of_getElem? h1)
    have hsh := (okDf_shape ((okDefs_each hok).2 _ (List.getElem_mem hi))).1
    have ht : TreesOf ds[i].2 ts := .inl ⟨hsh, g⟩
    refine ⟨ts, h1, ht.size, he.1, he.2.2, ?_, fun u W hu => spec_treeof ds[i].2 (hsm.2 _ (List.getElem_mem hi)).2.2 ts ht u W hu⟩
    rw [List.take_add_one, h1, widesL_app]
    simp [widesL])
  have HWD := Lib.hid (fun i => (show widesL tail (tss.take i) ≤ 1440 from by
    have h1 := hM.wide tail
    have h2 : widesL tail tss = widesL tail (tss.take i) + widesL tail (tss.drop i) := by rw [← widesL_app, List.take_append_drop]
    omega))
  obtain ⟨N, hN⟩ : ∃ N, ds.length = N := ⟨_, rfl⟩
  have HN := Lib.hid hN
  rw [hN] at HD hN24 ⊢
  clear hr hok hsm hN hM
  obtain ⟨i0, hi0, hz0, hz1, hz2⟩ := info_parts infoL
  obtain ⟨j0, hj0, jz0, jz1, jz2⟩ := info_parts infoIc
  go_enter Try.func6, Try.ntmps6
  go_wp2_with fail
  refine HD.out.mono ?_
  rintro e w2 ⟨rfl, hb2⟩
  have HB2 := Lib.hid (hb2.alloc hb2.size (.cells #[] 3))
  have RS0 := Lib.hid ((own_emptyC w2 3).mono hb2.size)
  clear hb2 HD
  go_wp2_with fail
  go_loopw [6, 7, 8] (fun vs vn vi wr => ∃ (i W : Nat), vi = .int .i64 i ∧ vn = .int .i64 W ∧ i ≤ N ∧ W ≤ 1440 ∧ Hid (W = widesL tail (tss.take i)) ∧ Hid (wr.ownsRow w.heap.size 3 1 vs i ((natI (startsL tail 0 (tss.take i))).map lv)) ∧ Hid (Below w.heap.size w wr)) (fun _ _ vi _ => N - (intOf vi).toNat)
  case atStart => exact ⟨0, 0, rfl, rfl, by omega, by omega, Lib.hid rfl, by simpa [startsL, natI] using RS0, HB2⟩
  case round =>
    rename World => wr
    clear RS0 HB2
    obtain ⟨i, W, rfl, rfl, hi, hW, HW, RS, BB⟩ := hrel
    obtain ⟨E, ec, rfl⟩ := own_formM RS.out
    by_cases hp : i < N
    · have hp' : i < ds.length := by rw [HN.out]; exact hp
      obtain ⟨a, B, m, bc, rfl, la, p0, p1, r0, em⟩ := (HR.out wr BB.out).item hp'
      obtain ⟨ts, hts, hsz, hlf, -, hwn, hto⟩ := HTS.out i hp'
      have hwb := HWD.out (i + 1)
      have hst : natI (startsL tail 0 (tss.take (i + 1))) = natI (startsL tail 0 (tss.take i)) ++ [(W : Int)] := by
        rw [(codes_take hts).2, HW.out]
        simp [natI]
      have b1 := below_alloc1 wr (nBox (W : Int))
      have R2 := Lib.hid (row_keepC RS.out b1)
      have SRC := Lib.hid (src_int wr (W : Int))
      have HBS : Hid (w.heap.size ≤ (wr.alloc (nBox (W : Int))).heap.size) := Lib.hid (Nat.le_trans BB.out.size b1.size)
      have B1 := Lib.hid (BB.out.trans (b1.mono BB.out.size))
      have HST := Lib.hid hst
      have HTO := Lib.hid hto
      have HSZ := Lib.hid hsz
      have HLF := Lib.hid hlf
      obtain ⟨W2, hW2⟩ : ∃ W2, widesL tail (tss.take (i + 1)) = W2 := ⟨_, rfl⟩
      rw [hW2] at hwb hwn
      have HW2 := Lib.hid hW2
      rw [← HW.out] at hwn
      obtain ⟨W3, hW3⟩ : ∃ W3, wideL tail false ts = W3 := ⟨_, rfl⟩
      rw [hW3] at hwn
      have HW3 := Lib.hid hW3
      have HWN : Hid ((W : Int) + (W3 : Int) = (W2 : Int)) := Lib.hid (by omega)
      have hb3 : (W3 : Int) ≤ 1440 := by omega
      have hb4 : (0 : Int) ≤ (W3 : Int) := by omega
      have i1 : (0 : Int) ≤ (i : Int) := by omega
      have i2 : (i : Int) < (N : Int) := by omega
      have LA : Hid ((a.add (i * 2)).block < w.heap.size ∧ Below w.heap.size w wr) := Lib.hid ⟨by
        obtain ⟨a2, B2, m2, bc2, e2, l2, -⟩ := (HR.out w (Below.refl _ _)).item hp'
        injection e2 with e2
        subst e2
        rw [addr_addb]; exact l2, BB.out⟩
      have HRX := Lib.hid (fun W (h : Below w.heap.size w W) => (HR.out W h).item hp')
      clear hts hsz hlf hwn hto hst b1 hW2 hW3 r0 em la p0 p1 RS BB HW
      go_wp2_with (at_builtin; refine wpList_append_src rfl _ _ 25 rfl w.heap.size 3 i0 (.int .i64 0) 1 8 Try.underlying25 hi0 hz0 hz1 hz2 rfl (by decide) _ i _ rfl R2.out _ 1 [.int .i64 (W : Int)] rfl SRC.out (by simp [Value.oneCell']) (by unfold maxLen; omega) (by omega) HBS.out ?_; intro v9 w9 ho9 ha9; obtain ⟨D9, dc9, hv9⟩ := own_formM ho9; subst hv9; have hb9 := B1.out.grown ha9.out.grown HBS.out (fun k hk => (World.ownsRow.lt R2.out k hk).1); obtain ⟨a9, B9, m9, bc9, ea9, la9, p0, p1, r9, em9⟩ := HRX.out w9 hb9; injection ea9 with ea9; subst ea9; refine unstop ?_)
      refine Stop.go ?_
      have R9 : Hid (w9.ownsRow w.heap.size 3 1 (.slice D9 (i + 1) dc9) (i + 1) ((natI (startsL tail 0 (tss.take (i + 1)))).map lv)) := Lib.hid (by rw [HST.out, List.map_append]; exact ho9)
      have HT9 := Lib.hid (HTO.out _ w9 r9)
      have B9' := Lib.hid hb9
      clear ho9 ha9 hb9 r9 em9 la9 R2 SRC HBS B1 HTO HST
      go_wp2_with fail
      refine HT9.out.mono ?_
      rintro e w4 ⟨u4, S4, rfl, h4, hb4'⟩
      obtain ⟨A4, c4, rfl⟩ := h4.rd.form
      have HWC := Lib.hid (spec_wide tail (sizeL ts + 1) ts (by omega) (by have := HSZ.out; omega) HLF.out _ w4 h4.rd)
      rw [HW3.out] at HWC
      have R4 := Lib.hid (row_keepC R9.out hb4')
      have B4 := Lib.hid (B9'.out.trans (hb4'.mono B9'.out.size))
      clear h4 hb4' HT9 R9 B9' p0 p1
      go_wp2_with fail
      refine HWC.out.mono ?_
      rintro e w5 ⟨rfl, hb5⟩
      have R5 := Lib.hid (row_keepC R4.out hb5)
      have B5 := Lib.hid (B4.out.trans (hb5.mono B4.out.size))
      clear hb5 HWC R4 B4
      have wsum : IntKind.i64.wrap ((W : Int) + (W3 : Int)) = (W : Int) + (W3 : Int) := IntWalk.i64_in _ (by omega)
      go_wp2_with fail
      go_roundw
      case rel => exact ⟨i + 1, W2, by go_num, by rw [← HWN.out], by omega, hwb, Lib.hid HW2.out.symm, R5, B5⟩
      case measure => simp [intOf]; omega
    · obtain rfl : i = N := by omega
      have e0 : tss.take i = tss := List.take_of_length_le (by rw [HMD.out.of.len, HN.out]; omega)
      have RSt : Hid (wr.ownsRow w.heap.size 3 1 (.slice E i ec) i ((natI (startsL tail 0 tss)).map lv)) := Lib.hid (by have := RS.out; rw [e0] at this; exact this)
      have hsl : (natI (startsL tail 0 tss)).length = i := by
        have h1 := RSt.out.1
        simpa using h1
      have HSL := Lib.hid hsl
      have HFN := Lib.hid (start_fun (startsL tail 0 tss))
      have HCV : Hid (codeV tail tss = (codesL tail 0 tss).map (resC (startI (startsL tail 0 tss))) ++ [(9, 0)]) := Lib.hid rfl
      have HCT : Hid (∀ j ts, tss[j]? = some ts → codesL tail 0 (tss.take (j + 1)) = codesL tail 0 (tss.take j) ++ codeL tail false (codesL tail 0 (tss.take j)).length ts ∧ (codesL tail 0 (tss.take (j + 1))).length ≤ 1440) := Lib.hid (fun j ts h => by
        have hl : ∀ q, (codesL tail 0 (tss.take q)).length = widesL tail (tss.take q) := fun q => codesL_len tail _ (fun t ht => (HMD.out.each t (List.mem_of_mem_take ht)).1) 0
        have h1 := (codes_take (tail := tail) h).1
        exact ⟨by rw [hl]; exact h1, by rw [hl]; exact HWD.out _⟩)
      obtain ⟨sts, hsts⟩ : ∃ sts, natI (startsL tail 0 tss) = sts := ⟨_, rfl⟩
      have HSTS := Lib.hid hsts
      obtain ⟨ff, hff⟩ : ∃ ff, startI (startsL tail 0 tss) = ff := ⟨_, rfl⟩
      rw [hsts] at RSt HSL HFN
      rw [hff] at HFN HCV
      have RO := Lib.hid ((own_emptyC2 wr).mono BB.out.size)
      have B0 := Lib.hid (BB.out.alloc BB.out.size (.cells #[] 55))
      have RS1 := Lib.hid (row_keepC RSt.out (below_alloc1 wr (.cells #[] 55)))
      clear RS BB e0 hsl hsts hff RSt HW
      go_wp2_with fail
      go_loopw [9, 10] (fun vo vj wr => ∃ (j : Nat) (lc : List (Int × Int)), vj = .int .i64 j ∧ j ≤ i ∧ lc.length ≤ 1440 ∧ Hid (lc = (codesL tail 0 (tss.take j)).map (resC ff)) ∧ Hid (wr.ownsRow w.heap.size 55 2 vo lc.length (cdv lc)) ∧ Hid (wr.ownsRow w.heap.size 3 1 (.slice E i ec) i (sts.map lv)) ∧ Hid (Below w.heap.size w wr)) (fun _ vj _ => i - (intOf vj).toNat)
      case atStart => exact ⟨0, [], rfl, by omega, by simp, Lib.hid (by simp [codesL]), RO, RS1, B0⟩
      case round =>
        rename World => wq
        clear RO RS1 B0
        obtain ⟨j, lc, rfl, hj, hlc, HLC, RW, RT, BQ⟩ := hrel
        obtain ⟨G, gc, rfl⟩ := own_formM RW.out
        by_cases hpj : j < i
        · have hj' : j < ds.length := by rw [HN.out]; exact hpj
          obtain ⟨a, B, m, bc, rfl, la, p0, p1, r0, em⟩ := (HR.out wq BQ.out).item hj'
          obtain ⟨ts, hts, hsz, hlf, hfit, -, hto⟩ := HTS.out j hj'
          have hct := HCT.out j ts hts
          have hlen : (codesL tail 0 (tss.take j)).length = lc.length := by rw [HLC.out, List.length_map]
          have hF : lc ++ (codeL tail false lc.length ts).map (resC ff) = (codesL tail 0 (tss.take (j + 1))).map (resC ff) := by
            rw [hct.1, List.map_append, ← HLC.out, hlen]
          have hFl : (lc ++ (codeL tail false lc.length ts).map (resC ff)).length ≤ 1440 := by rw [hF, List.length_map]; exact hct.2
          have HTO := Lib.hid (hto _ wq r0)
          have HSTL : Hid (sts.length = ds.length) := Lib.hid (by rw [HSL.out, HN.out])
          have HTR : Hid (∀ W u S, OwnT W wq.heap.size u ts S → Below wq.heap.size wq W → Calls Try.prog 25 #[.slice G lc.length gc, u, .slice E i ec, .bool tail] W (CodeT9 w.heap.size W (.slice G lc.length gc) (lc ++ (codeL tail false lc.length ts).map (resC ff)))) := Lib.hid (fun W u S hO hb => by
            have hrt := row_keepC RT.out hb
            rw [← HSL.out] at hrt
            have := spec_trees tail sts (by rw [HSL.out]; omega) (sizeL ts + 1) ts (by omega) (by omega) hlf (by rw [HSTL.out]; exact hfit) w.heap.size wq.heap.size w.heap.size lc (lc ++ (codeL tail false lc.length ts).map (resC ff)) (.slice G lc.length gc) u _ S W (Nat.le_trans BQ.out.size hb.size) (by rw [HFN.out]) (by omega) (row_keepC RW.out hb) hO (fun k hk e => by have h1 := (hO.bound k hk).1; have h2 := (World.ownsRow.lt RW.out k e).2; omega) hrt
            rw [HSL.out] at this
            exact this)
          obtain ⟨F9, hF9⟩ : ∃ F9, lc ++ (codeL tail false lc.length ts).map (resC ff) = F9 := ⟨_, rfl⟩
          rw [hF9] at hF hFl HTR
          have HF := Lib.hid hF
          obtain ⟨C, hC⟩ : ∃ C, lc.length = C := ⟨_, rfl⟩
          rw [hC] at HTR RW hlc ⊢
          have j1 : (0 : Int) ≤ (j : Int) := by omega
          have j2 : (j : Int) < (i : Int) := by omega
          clear hts hsz hlf hfit hto hct hlen hF hF9 hC r0 em la HLC
          go_wp2_with fail
          refine HTO.out.mono ?_
          rintro e w4 ⟨u4, S4, rfl, h4, hb4⟩
          obtain ⟨A4, c4, rfl⟩ := h4.rd.form
          have HTC := Lib.hid (HTR.out w4 _ S4 h4 hb4)
          have R4 := Lib.hid (row_keepC RW.out hb4)
          have T4 := Lib.hid (row_keepC RT.out hb4)
          have B4 := Lib.hid (BQ.out.trans (hb4.mono BQ.out.size))
          clear h4 hb4 HTO HTR RW RT BQ p0 p1
          go_wp2_with fail
          refine HTC.out.mono ?_
          rintro e w5 ⟨u5, rfl, ho5, hg5⟩
          obtain ⟨D5, dc5, hv5⟩ := own_formM ho5
          subst hv5
          have R5 := Lib.hid ho5
          have T5 := Lib.hid (hg5.row T4.out (types_neM T4.out R4.out (by decide)))
          have B5 := Lib.hid (B4.out.grown hg5.1 B4.out.size (fun k hk => (World.ownsRow.lt R4.out k hk).1))
          clear ho5 hg5 HTC R4 T4 B4
          go_wp2_with fail
          go_roundw
          case rel => exact ⟨j + 1, F9, by go_num, by omega, hFl, HF, R5, T5, B5⟩
          case measure => simp [intOf]; omega
        · obtain rfl : j = i := by omega
          have e0 : tss.take j = tss := List.take_of_length_le (by rw [HMD.out.of.len, HN.out]; omega)
          have hlc2 := HLC.out
          rw [e0] at hlc2
          have HV : Hid (codeV tail tss = lc ++ [(9, 0)]) := Lib.hid (by rw [HCV.out, hlc2])
          obtain ⟨C, hC⟩ : ∃ C, lc.length = C := ⟨_, rfl⟩
          have HC := Lib.hid hC
          rw [hC] at RW hlc ⊢
          have b1 := below_alloc1 wq (.cells #[.int .i64 9, .int .i64 0] 55)
          have R2 := Lib.hid (row_keepC RW.out b1)
          have T2 := Lib.hid (row_keepC RT.out b1)
          have SRC := Lib.hid (src_ins wq (.int .i64 9) (.int .i64 0))
          have HBS : Hid (w.heap.size ≤ (wq.alloc (.cells #[.int .i64 9, .int .i64 0] 55)).heap.size) := Lib.hid (Nat.le_trans BQ.out.size b1.size)
          have B1 := Lib.hid (BQ.out.trans (b1.mono BQ.out.size))
          clear RW RT BQ b1 HLC hlc2 e0 hC
          go_wp2_with (at_builtin; refine wpList_append_src rfl _ _ 24 rfl w.heap.size 55 j0 (.agg #[.int .i64 0, .int .i64 0]) 2 16 Try.underlying24 hj0 jz0 jz1 jz2 rfl (by decide) _ C _ rfl R2.out _ 1 [.int .i64 9, .int .i64 0] rfl SRC.out (by simp [Value.oneCell']) (by unfold maxLen; omega) (by omega) HBS.out ?_; intro v9 w9 ho9 ha9; obtain ⟨D9, dc9, hv9⟩ := own_formM ho9; subst hv9; refine unstop ?_)
          refine Stop.go ?_
          have R9 : Hid (w9.ownsRow w.heap.size 55 2 (.slice D9 (C + 1) dc9) (codeV tail tss).length (cdv (codeV tail tss))) := Lib.hid (by rw [HV.out, List.length_append, HC.out, cdv_app]; exact ho9)
          have T9 : Hid (w9.ownsRow w.heap.size 3 1 (.slice E j ec) (natI (startsL tail 0 tss)).length ((natI (startsL tail 0 tss)).map lv)) := Lib.hid (by
            have h := (Gr.app ha9.out).row T2.out (types_neM T2.out R2.out (by decide))
            rw [HSTS.out, HSL.out]
            exact h)
          have B9 := Lib.hid (B1.out.grown ha9.out.grown HBS.out (fun k hk => (World.ownsRow.lt R2.out k hk).1))
          clear ho9 ha9 R2 T2 SRC HBS B1
          go_wp2_with fail
          go_ret2
          exact ⟨_, _, rfl, R9.out, T9.out, B9.out⟩
end Go.Proofs.Ytofikgjoiidhmaa

namespace Go.Proofs.Ytofikgjoiidhmaa
open Go.RowKit Go

/-- What is left for marks, told by the definitions as they were read. -/
theorem dsum_of {W : World} {A : Option Addr} {N c : Nat} {f : Nat → ByteArray × Option Addr × Nat × Nat} {ds : List Df} (hr : RdD W (.slice A N c) ds) (hN : ds.length = N)
    (hf : ∀ i, i < N → ∃ a, A = some a ∧ a.block < W.heap.size ∧ W.cell? (a.add (i * 2)) = some (.string (f i).1) ∧ W.cell? ((a.add (i * 2)).add 1) = some (.slice (f i).2.1 (f i).2.2.1 (f i).2.2.2) ∧ (f i).1.size ≤ 9223372036854775807 ∧ OpsIn W (f i).2.1 (f i).2.2.1 (f i).2.2.2) : dsum ds ds.length = bsum f N := by
  obtain ⟨A2, cap, e0, hc⟩ := hr
  injection e0 with e1 e2 e3
  subst e1
  have hl : ∀ i (h : i < ds.length), ds[i].2.length = (f i).2.2.1 := fun i h => by
    obtain ⟨a, vb, rfl, -, -, c1, hs⟩ := hc i h
    obtain ⟨a2, e, -, -, c2, -⟩ := hf i (by omega)
    injection e with e
    subst e
    obtain ⟨B, bc, rfl⟩ := hs.form
    rw [c1] at c2
    injection c2 with c2
    injection c2 with _ c3 _
  have key : ∀ i, i ≤ ds.length → dsum ds i = bsum f i := by
    intro i
    induction i with
    | zero => intro _; cases ds <;> rfl
    | succ i ih => intro h; rw [dsum_succ (by omega), ih (by omega), hl i (by omega)]; rfl
  rw [key _ (Nat.le_refl _), hN]
/-- Both sides' codes. -/
theorem codes_of (ds : List Df) (hsm : SmD ds) (tail : Bool) : ∃ (L : List (Int × Int)) (S : List Int), L.length ≤ 4000 ∧ S.length ≤ 4000 ∧ (∀ u W, RdD W u ds → Calls Try.prog 6 #[u, .bool tail] W (CodeEnd W L S)) ∧ (∀ u W, RdDc W u ds → Calls Try.prog 8 #[u, .bool tail] W (CodeEnd W L S)) := by
  cases hok : okDefs ds with
  | false => exact ⟨[], [], by simp, by simp, fun u W h => spec_codeof_not ds hsm hok tail u W h, fun u W h => impl_codeof_not ds hsm hok tail u W h.rd⟩
  | true =>
    obtain ⟨tss, ht⟩ := okDefs_trees hok
    have hM := made_of hok (fun d hd => (hsm.2 d hd).2.2) ht
    exact ⟨codeV tail tss, natI (startsL tail 0 tss), by rw [hM.len]; have := hM.wide tail; omega, by simp only [natI, List.length_map, startsL_len]; have := hM.few; omega, fun u W h => spec_codeof ds hsm hok tss hM tail u W h, fun u W h => impl_codeof ds hsm hok tss hM tail u W h⟩
set_option maxRecDepth 100000 in
set_option maxHeartbeats 16000000 in
theorem law_FnExactCodeOf (tail : Bool) (w : World) (A : Option Addr) (n c : Nat) (hin : DefsIn w A n) : Calls Try.prog 3 #[.slice A n c, .bool tail] w fun e w' => e = .returned (.bool true) ∧ Below w.heap.size w w' := by
  obtain ⟨hn, f, hf⟩ := hin
  have HSZ := Lib.hid (sz_defs2 A n c hn f w hf)
  have HF := Lib.hid hf
  clear hf hn
  go_enter Try.func3, Try.ntmps3
  go_wp2_with fail
  refine HSZ.out.mono ?_
  rintro e w1 ⟨⟨z, rfl, rfl | ⟨hz0, hn, hbs, hs⟩⟩, hb1⟩
  · have B1 := Lib.hid hb1
    clear hb1 HSZ
    go_wp2_with fail
    go_ret
    exact ⟨rfl, B1.out⟩
  · have B1 := Lib.hid hb1
    obtain ⟨ds, rfl, hsm, hr⟩ := rdd_of (c := c) hn f HF.out hs
    have hds := dsum_of hr rfl HF.out
    have hsum : dsum ds ds.length ≤ 1048576 := by omega
    obtain ⟨L, S, hL, hS, hsp, him⟩ := codes_of ds hsm tail
    have hrc : ∀ b u W, OwnD W b u ds → RdDc W u ds := fun b u W h => h.rdc (fun d hd => (hsm.2 d hd).2.1)
    have HR := Lib.hid (fun W (h : Below w.heap.size w W) => hr.below h)
    have HSP := Lib.hid hsp
    have HIM := Lib.hid (fun b u W (h : OwnD W b u ds) => him u W (hrc b u W h))
    have HTO := Lib.hid (fun u W (h : RdD W u ds) => toD_any u ds hsm W h)
    have HTW := Lib.hid (fun u W (h : RdD W u ds) => toD_own u ds hsm W h)
    have HEQ := Lib.hid (fun a b W (h : RdD W a ds) (h2 : RdD W b ds) => eqD_same a b ds hn W h h2)
    have HRD := Lib.hid (fun b u W (h : OwnD W b u ds) => (hrc b u W h).rd)
    have HMD := Lib.hid (fun base top v w0 W (h0 : OwnD w0 base v ds) (ht : w0.heap.size ≤ top) (hw : Below w0.heap.size w0 W) => markD_any ds base top v hn hsum w0 W h0 ht hw)
    have HEI := Lib.hid (fun a b W (h : RdIc W a L) (h2 : RdIc W b L) => eqIc_same a b L W h h2)
    have HEL := Lib.hid (fun a b W (h : RdL W a S) (h2 : RdL W b S) => (eqL_same a b S W h h2).mono (R' := fun e w' => e = .returned (.bool true) ∧ Below W.heap.size W w') (fun e w' ⟨h1, d, h3⟩ => ⟨h1, by rw [h3]; exact below_drewN (Below.refl _ _) d⟩))
    obtain ⟨m1, hm1⟩ : ∃ m1, 1 + 2 * L.length = m1 := ⟨_, rfl⟩
    obtain ⟨m2, hm2⟩ : ∃ m2, m1 + S.length = m2 := ⟨_, rfl⟩
    have HMI := Lib.hid (fun base v W (h : W.ownsRow base 55 2 v L.length (cdv L)) => (markIc_any base v L 1 (by omega) (by omega) W h).mono (R' := fun e w' => e = .returned (.int .i64 (m1 : Int)) ∧ w'.ownsRow base 55 2 v L.length (cdv (marksIc 1 L.length)) ∧ W.grownBy w' v.ownBlock) (fun e w' ⟨h1, h2, h3⟩ => ⟨by rw [h1, ← hm1]; congr 2, h2, h3⟩))
    have HML := Lib.hid (fun base v W (h : W.ownsRow base 3 1 v S.length (S.map lv)) => (markL_any base v S m1 (by omega) (by omega) W h).mono (R' := fun e w' => e = .returned (.int .i64 (m2 : Int)) ∧ w'.ownsRow base 3 1 v S.length ((marksL m1 S.length).map lv) ∧ W.grownBy w' v.ownBlock) (fun e w' ⟨h1, h2, h3⟩ => ⟨by rw [h1, ← hm2]; congr 2, h2, h3⟩))
    have HHI := Lib.hid (fun v W (h : RdIc W v (marksIc 1 L.length)) => (heldIc_any v 1 L.length (by omega) (by omega) W h).mono (R' := fun e w' => e = .returned (.int .i64 (m1 : Int)) ∧ W = w') (fun e w' ⟨h1, h2⟩ => ⟨by rw [h1, ← hm1]; congr 2, h2⟩))
    have HHL := Lib.hid (fun v W (h : RdL W v (marksL m1 S.length)) => (heldL_any v m1 S.length (by omega) (by omega) W h).mono (R' := fun e w' => e = .returned (.int .i64 (m2 : Int)) ∧ W = w') (fun e w' ⟨h1, h2⟩ => ⟨by rw [h1, ← hm2]; congr 2, h2⟩))
    have HRI : Hid (∀ {xs : List (Int × Int)} {b v W}, xs.length = L.length → W.ownsRow b 55 2 v L.length (cdv xs) → RdIc W v xs) := Lib.hid (fun e h => RdIc.of_own (by rw [e]; exact h) (by omega))
    have HRL : Hid (∀ {xs : List Int} {b v W}, xs.length = S.length → W.ownsRow b 3 1 v S.length (xs.map lv) → RdL W v xs) := Lib.hid (fun e h => RdL.of_own (by rw [e]; exact h) (by omega))
    have HLI : Hid ((marksIc 1 L.length).length = L.length) := Lib.hid (by simp [marksIc])
    have HLL : Hid ((marksL m1 S.length).length = S.length) := Lib.hid (marksL_len _ _)
    have hq1 : ¬ (m1 : Int) < 0 := by omega
    have hq2 : ¬ (m2 : Int) < 0 := by omega
    have hqE : ((m2 : Int) != (m2 : Int)) = false := by simp
    have hz : ¬ z < 0 := by omega
    obtain ⟨v, hv⟩ : ∃ v, v = Value.slice A ds.length c := ⟨_, rfl⟩
    rw [← hv] at HR ⊢
    clear hb1 HSZ HF hs hsm hr hz0 hv hds hsum hsp him hrc hbs hn hL hS hm1 hm2
    go_wp2_with fail
    refine (HTO.out v w1 (HR.out _ B1.out)).mono ?_
    rintro e w2 ⟨v2, rfl, ho2, hb2⟩
    have B2 := Lib.hid (B1.out.trans (hb2.mono B1.out.size))
    have HR2 := Lib.hid ho2
    clear ho2 hb2 B1
    go_wp2_with fail
    refine (HSP.out v2 w2 HR2.out).mono ?_
    rintro e w3 ⟨wa, wb, rfl, hoa, hob, hb3⟩
    have B3 := Lib.hid (B2.out.trans (hb3.mono B2.out.size))
    have HW : Hid (∀ W, Below w3.heap.size w3 W → RdIc W wa L ∧ RdL W wb S) := Lib.hid (fun W h => ⟨(HRI.out rfl hoa).below h, (HRL.out rfl hob).below h⟩)
    clear hb3 HR2 B2 HSP hoa hob
    go_wp2_with fail
    refine (HTW.out v w3 (HR.out _ B3.out)).mono ?_
    rintro e w4 ⟨x0, rfl, hx4, hb4⟩
    have C4 := Lib.hid hb4
    have X4 := Lib.hid hx4
    clear hx4 hb4
    go_wp2_with fail
    refine (HIM.out _ x0 w4 X4.out).mono ?_
    rintro e w5 ⟨g0, g1, rfl, hoa, hob, hb5⟩
    have C5 := Lib.hid (C4.out.trans (hb5.mono C4.out.size))
    have X5 := Lib.hid (X4.out.below hb5)
    have Z5 : Hid (w3.heap.size ≤ w4.heap.size ∧ w4.heap.size ≤ w5.heap.size) := Lib.hid ⟨C4.out.size, hb5.size⟩
    have HG : Hid (∀ W : World, (∀ q, w4.heap.size ≤ q → q < w5.heap.size → W.heap[q]? = w5.heap[q]?) → W.ownsRow w4.heap.size 55 2 g0 L.length (cdv L) ∧ W.ownsRow w4.heap.size 3 1 g1 S.length (S.map lv)) := Lib.hid (fun W h => ⟨row_sameM hoa (fun q hq => h q (World.ownsRow.lt hoa q hq).1 (World.ownsRow.lt hoa q hq).2), row_sameM hob (fun q hq => h q (World.ownsRow.lt hob q hq).1 (World.ownsRow.lt hob q hq).2)⟩)
    have D5 := Lib.hid hb5
    clear hoa hob hb5 C4
    go_wp2_with fail
    refine (HEI.out g0 wa w5 (HRI.out rfl (HG.out w5 (fun _ _ _ => rfl)).1) (HW.out _ C5.out).1).mono ?_
    rintro e w6 ⟨rfl, hb6⟩
    have E6 := Lib.hid hb6
    have C6 := Lib.hid (C5.out.trans (hb6.mono C5.out.size))
    clear hb6
    go_wp2_with fail
    refine (HEL.out g1 wb w6 (HRL.out rfl (HG.out w6 (fun q _ hq => E6.out.block q hq)).2) (HW.out _ C6.out).2).mono ?_
    rintro e w7 ⟨rfl, hb7⟩
    have E7 := Lib.hid (E6.out.trans (hb7.mono E6.out.size))
    have C7 := Lib.hid (C6.out.trans (hb7.mono C6.out.size))
    clear hb7 E6 C5 C6
    go_wp2_with fail
    refine (HTO.out v w7 (HR.out _ (B3.out.trans (C7.out.mono B3.out.size)))).mono ?_
    rintro e w8 ⟨v8, rfl, ho8, hb8⟩
    have E8 := Lib.hid (E7.out.trans (hb8.mono E7.out.size))
    have C8 := Lib.hid (C7.out.trans (hb8.mono C7.out.size))
    have R8 := Lib.hid ho8
    clear hb8 E7 C7 ho8
    go_wp2_with fail
    refine (HEQ.out x0 v8 w8 (HRD.out _ _ _ (X5.out.below E8.out)) R8.out).mono ?_
    rintro e w9 ⟨rfl, hb9⟩
    have E9 := Lib.hid (E8.out.trans (hb9.mono E8.out.size))
    have C9 := Lib.hid (C8.out.trans (hb9.mono C8.out.size))
    clear hb9 E8 C8 R8
    go_wp2_with fail
    refine (HMD.out w3.heap.size w4.heap.size x0 w4 w9 X4.out (Nat.le_refl _) (D5.out.trans (E9.out.mono Z5.out.2))).mono ?_
    rintro e w10 ⟨⟨q0, rfl⟩, hc10⟩
    have C10 := Lib.hid (C9.out.trans (hc10.below (fun g hg => hg.1) C9.out.size))
    have G10 := Lib.hid (HG.out w10 (fun q h1 h2 => (hc10.block q (Nat.lt_of_lt_of_le h2 E9.out.size) (fun h3 => Nat.lt_irrefl _ (Nat.lt_of_lt_of_le h3.2 h1))).trans (E9.out.block q h2)))
    have hq0 : ¬ (q0 : Int) < 0 := by omega
    clear hc10 C9 E9 X4 X5 D5 HG HMD HRD
    go_wp2_with fail
    refine (HEI.out g0 wa w10 (HRI.out rfl G10.out.1) (HW.out _ C10.out).1).mono ?_
    rintro e w11 ⟨rfl, hb11⟩
    have C11 := Lib.hid (C10.out.trans (hb11.mono C10.out.size))
    have F11 := Lib.hid hb11
    clear hb11
    go_wp2_with fail
    refine (HEL.out g1 wb w11 ((HRL.out rfl G10.out.2).below F11.out) (HW.out _ C11.out).2).mono ?_
    rintro e w12 ⟨rfl, hb12⟩
    have C12 := Lib.hid (C11.out.trans (hb12.mono C11.out.size))
    have F12 := Lib.hid (F11.out.trans (hb12.mono F11.out.size))
    have P12 := Lib.hid (row_sameM G10.out.1 (fun q hq => F12.out.block q (World.ownsRow.lt G10.out.1 q hq).2))
    have Q12 := Lib.hid (row_sameM G10.out.2 (fun q hq => F12.out.block q (World.ownsRow.lt G10.out.2 q hq).2))
    clear hb12 C10 C11 F11 F12 G10 hq0
    go_wp2_with fail
    refine (HMI.out _ g0 w12 P12.out).mono ?_
    rintro e w13 ⟨rfl, hp13, hg13⟩
    have C13 := Lib.hid (C12.out.grown hg13 C12.out.size (fun k hk => Nat.le_trans Z5.out.1 (World.ownsRow.lt P12.out k hk).1))
    have Q13 := Lib.hid (row_sameM Q12.out (fun q hq => hg13.block q (World.ownsRow.lt Q12.out q hq).2 (fun e => types_neM Q12.out P12.out (by decide) q hq e.symm)))
    have P13 := Lib.hid hp13
    clear hp13 hg13 C12 P12 Q12 HMI
    go_wp2_with fail
    refine (HML.out _ g1 w13 Q13.out).mono ?_
    rintro e w14 ⟨rfl, hp14, hg14⟩
    have C14 := Lib.hid (C13.out.grown hg14 C13.out.size (fun k hk => Nat.le_trans Z5.out.1 (World.ownsRow.lt Q13.out k hk).1))
    have P14 := Lib.hid (row_sameM P13.out (fun q hq => hg14.block q (World.ownsRow.lt P13.out q hq).2 (fun e => types_neM P13.out Q13.out (by decide) q hq e.symm)))
    have Q14 := Lib.hid hp14
    have R14 := Lib.hid (HRI.out HLI.out P14.out)
    have S14 := Lib.hid (HRL.out HLL.out Q14.out)
    clear hp14 hg14 C13 P13 Q13 HML P14 Q14
    go_wp2_with fail
    refine (HHI.out g0 w14 R14.out).mono ?_
    rintro e w15 ⟨rfl, rfl⟩
    go_wp2_with fail
    refine (HHL.out g1 w14 S14.out).mono ?_
    rintro e w16 ⟨rfl, rfl⟩
    go_wp2_with fail
    refine (HTW.out v w14 (HR.out _ (B3.out.trans (C14.out.mono B3.out.size)))).mono ?_
    rintro e w17 ⟨x1, rfl, hx17, hb17⟩
    have C17 := Lib.hid (C14.out.trans (hb17.mono C14.out.size))
    have F17 := Lib.hid hb17
    have X17 := Lib.hid hx17
    clear hx17 hb17 C14
    go_wp2_with fail
    refine (HIM.out _ x1 w17 X17.out).mono ?_
    rintro e w18 ⟨h0, h1, rfl, hoa, hob, hb18⟩
    have C18 := Lib.hid (C17.out.trans (hb18.mono C17.out.size))
    have F18 := Lib.hid (F17.out.trans (hb18.mono F17.out.size))
    have R18 := Lib.hid (HRI.out rfl hoa)
    have S18 := Lib.hid (HRL.out rfl hob)
    clear hoa hob hb18 C17 F17 X17 HIM
    go_wp2_with fail
    refine (HEI.out h0 wa w18 R18.out (HW.out _ C18.out).1).mono ?_
    rintro e w19 ⟨rfl, hb19⟩
    have C19 := Lib.hid (C18.out.trans (hb19.mono C18.out.size))
    have F19 := Lib.hid (F18.out.trans (hb19.mono F18.out.size))
    have S19 := Lib.hid (S18.out.below hb19)
    clear hb19 C18 F18 R18 S18
    go_wp2_with fail
    refine (HEL.out h1 wb w19 S19.out (HW.out _ C19.out).2).mono ?_
    rintro e w20 ⟨rfl, hb20⟩
    have C20 := Lib.hid (C19.out.trans (hb20.mono C19.out.size))
    have F20 := Lib.hid (F19.out.trans (hb20.mono F19.out.size))
    have R20 := Lib.hid (R14.out.below F20.out)
    have S20 := Lib.hid (S14.out.below F20.out)
    clear hb20 C19 F19 S19 R14 S14
    go_wp2_with fail
    refine (HHI.out g0 w20 R20.out).mono ?_
    rintro e w21 ⟨rfl, rfl⟩
    go_wp2_with fail
    refine (HHL.out g1 w20 S20.out).mono ?_
    rintro e w22 ⟨rfl, rfl⟩
    go_wp2_with fail
    go_ret
    exact ⟨rfl, B3.out.trans (C20.out.mono B3.out.size)⟩
end Go.Proofs.Ytofikgjoiidhmaa
