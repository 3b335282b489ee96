/-
  spec.l09Flat, spec.FlatOf.
-/
import Derived.Test.YtlkkobffgbjkpaaFlatMath
import Derived.Test.YtlkkobffgbjkpaaTreeW
import Derived.Test.YtlkkobffgbjkpaaTreesS
import Derived.Deep.Cut
namespace Go.Proofs.Ytlkkobffgbjkpaa
open Go.RowKit Go

/-- What l09Flat tells. -/
def FlatEnd (ts : List Tr) (D L0 : Nat) (w : World) (e : Ending) (w' : World) : Prop :=
  (shL ts = true ∧ (flatL ts).length ≤ L0 + D ∧ ∃ u, e = .returned (.tuple #[u, .bool true]) ∧ w'.ownsRow w.heap.size 75 2 u (flatL ts).length (slv (flatL ts)) ∧ Below w.heap.size w w') ∨
  (¬ (shL ts = true ∧ (flatL ts).length ≤ L0 ∧ (flatL ts).length + 1 ≤ D) ∧ e = .returned (.tuple #[.slice none 0 0, .bool false]) ∧ Below w.heap.size w w')
theorem own_emptyO (w : World) : (w.alloc (.cells #[] 75)).ownsRow w.heap.size 75 2 (.slice (some ⟨w.heap.size, 0, none⟩) 0 0) 0 [] :=
  ⟨rfl, .inr ⟨w.heap.size, 0, #[], rfl, Nat.le_refl _, heap_alloc_new w _, Nat.le_refl _, Nat.zero_le _, rfl, rfl⟩⟩
theorem src_two (w : World) (a b : Value) : SrcAt (w.alloc (.cells #[a, b] 75)) 2 (.slice (some ⟨w.heap.size, 0, none⟩) 1 1) 1 [a, b] := by
  refine ⟨_, _, rfl, rfl, fun h => by simp at h, fun q hq j x hj => ?_⟩
  obtain rfl : q = ⟨w.heap.size, 0, none⟩ := by injection hq with hq; exact hq.symm
  rw [addr_lit, cell_of_row _ w.heap.size (0 + j) #[a, b] 75 (0, 0) (heap_alloc_new w _), Nat.zero_add]
  simpa using hj
theorem row_keep {w w' : World} {base size : Nat} {e : TypeId} {v : Value} {n : Nat} {xs : List Value} (h : w.ownsRow base e size v n xs) (hb : Below w.heap.size w w') : w'.ownsRow base e size v n xs := row_same h (fun g hg => hb.block g (World.ownsRow.lt h g hg).2)
theorem src_row {w : World} {base : Nat} {e : TypeId} {v : Value} {xs : List (Int × Int)} (h : w.ownsRow base e 2 v xs.length (slv xs)) : SrcAt w 2 v xs.length (slv xs) := by
  rcases h.2 with ⟨rfl, h0⟩ | ⟨g, cap, cur, rfl, hb, hg, hn, hm, hsz, ht⟩
  · refine ⟨none, 0, by rw [h0], slv_len xs, fun _ => h0, fun a ha => by cases ha⟩
  · refine ⟨some ⟨g, 0, none⟩, cap, rfl, slv_len xs, (fun h => by cases h), fun a ha j x hj => ?_⟩
    obtain rfl : a = ⟨g, 0, none⟩ := by injection ha with ha; exact ha.symm
    have hjl : j < (slv xs).length := (List.getElem?_eq_some_iff.1 hj).1
    rw [addr_lit, Nat.zero_add, h.cellAt j (by rw [slv_len] at hjl; exact hjl)]
    exact hj
theorem slv_ones (xs : List (Int × Int)) : ∀ u ∈ slv xs, u.oneCell' = true := slv_one
/-- How a kind's tests come out. -/
theorem kinds_any (k : Int) : ((k == 3) = true ∧ (k = 3 ∨ k = 4 ∨ k = 6)) ∨ (((k == 3) = false ∧ (k == 4) = true) ∧ (k = 3 ∨ k = 4 ∨ k = 6)) ∨ (((k == 3) = false ∧ (k == 4) = false ∧ (k == 6) = true) ∧ (k = 3 ∨ k = 4 ∨ k = 6)) ∨
    (((k == 3) = false ∧ (k == 4) = false ∧ (k == 6) = false ∧ (k == 5) = true) ∧ k = 5) ∨ (((k == 3) = false ∧ (k == 4) = false ∧ (k == 6) = false ∧ (k == 5) = false ∧ (k == 7) = true) ∧ k = 7) ∨
    (((k == 3) = false ∧ (k == 4) = false ∧ (k == 6) = false ∧ (k == 5) = false ∧ (k == 7) = false) ∧ k ≠ 3 ∧ k ≠ 4 ∧ k ≠ 5 ∧ k ≠ 6 ∧ k ≠ 7) := by
  simp only [beq_iff_eq, beq_eq_false_iff_ne]
  omega
theorem AppAlt.where9 {w w' : World} {n m : Nat} {d d' : Value} (h : AppAlt w w' d d' n m) : ∀ k, d'.ownBlock = some k → d.ownBlock = some k ∨ w.heap.size ≤ k := by
  intro k hk
  rcases h with ⟨g, cap, rfl, -, rfl, -⟩ | ⟨-, h⟩
  · exact .inl hk
  · exact .inr (h k hk)
set_option maxRecDepth 100000 in
set_option maxHeartbeats 8000000 in
theorem spec_flatL : ∀ (M : Nat) (ts : List Tr), sizeL ts < M → sizeL ts ≤ 2000000 → ∀ (D L0 : Nat) (dp : Int), dp = (D : Int) - 1 → D ≤ 61 → L0 ≤ 60 → ∀ (v : Value) (w : World), RdT w v ts →
    Calls Try.prog 50 #[v, .int .i64 dp, .int .i64 (L0 : Int)] w (FlatEnd ts D L0 w) := by
  intro M
  induction M with
  | zero => intro ts h; omega
  | succ M ih =>
    intro ts hM hz2m D L0 dp hdp hD hL0 v w hr
    have HDP := Lib.hid hdp
    have dp0 : -1 ≤ dp := by omega
    have dp1 : dp ≤ 60 := by omega
    obtain ⟨A, cap, rfl⟩ := hr.form
    obtain ⟨i0, hi0, hz0, hz1, hz2⟩ := info_parts infoS
    have hlN : ts.length ≤ 2000000 := Nat.le_trans (sizeL_len ts) hz2m
    have HR := Lib.hid (fun W (h : Below w.heap.size w W) => hr.stay h)
    have HIH := Lib.hid (fun i (hi : i < ts.length) => ih ts[i].kids (by have := sizeL_get hi; omega) (by have := sizeL_get hi; omega))
    have HFT := Lib.hid (fun i (hi : i < ts.length) => flatL_take hi)
    have HST := Lib.hid (fun i (hi : i < ts.length) => shL_take hi)
    have HSP := Lib.hid (fun i (hi : i < ts.length) => flatL_split hi)
    have HSS := Lib.hid (fun i (hi : i < ts.length) => shL_split hi)
    have HTL : Hid (ts.take ts.length = ts) := Lib.hid List.take_length
    have R0 := Lib.hid (own_emptyO w)
    have B0 := Lib.hid (below_alloc1 w (.cells #[] 75))
    obtain ⟨N, hN⟩ : ∃ N, ts.length = N := ⟨_, rfl⟩
    have HN := Lib.hid hN
    rw [hN] at hlN ⊢
    rw [hN] at HR HTL
    clear hr ih hM hz2m hN hdp
    go_enter Try.func50, Try.ntmps50
    go_wp2_with fail
    go_loopw [8, 9] (fun vo vi wr => ∃ (i : Nat) (u : Value), vi = .int .i64 i ∧ vo = u ∧ i ≤ N ∧ (flatL (ts.take i)).length ≤ L0 + D ∧ Hid (shL (ts.take i) = true) ∧ Hid (wr.ownsRow w.heap.size 75 2 u (flatL (ts.take i)).length (slv (flatL (ts.take i)))) ∧ Hid (Below w.heap.size w wr)) (fun _ vi _ => N - (intOf vi).toNat)
    case atStart => exact ⟨0, _, rfl, rfl, by omega, by simp [flatL], Lib.hid (by simp [shL]), by simpa [flatL, slv] using R0, B0⟩
    case round =>
      obtain ⟨i, u, rfl, rfl, hi, hlen, HSH, RW, BB⟩ := hrel
      clear R0 B0
      obtain ⟨E, ec, rfl⟩ := own_formS RW.out
      obtain ⟨n9, hn9⟩ : ∃ n9, (flatL (ts.take i)).length = n9 := ⟨_, rfl⟩
      rw [hn9] at hlen RW ⊢
      by_cases hp : i < N
      · have hp' : i < ts.length := by rw [HN.out]; exact hp
        obtain ⟨a, B, m, bc, rfl, la, p0w, p1w, p2w, r1, e1⟩ := (HR.out w (Below.refl _ _)).item hp'
        have la2 : (a.add (i * 3)).block < w.heap.size := by rw [addr_addb]; exact la
        have p0 := (BB.out.cell la2).trans p0w
        have p1 := (BB.out.cell (p := ⟨(a.add (i * 3)).block, (a.add (i * 3)).off + 1, none⟩) la2).trans p1w
        have p2 := (BB.out.cell (p := ⟨(a.add (i * 3)).block, (a.add (i * 3)).off + 2, none⟩) la2).trans p2w
        clear p0w p1w p2w la2
        have hft := HFT.out i hp'
        have hst := HST.out i hp'
        have hsp := HSP.out i hp'
        have hss := HSS.out i hp'
        have hic := HIH.out i hp'
        obtain ⟨x, hx⟩ : ∃ x, ts[i] = x := ⟨_, rfl⟩
        obtain ⟨k, n, kids⟩ := x
        rw [hx] at p0 p1 r1 e1 hft hst hsp hss hic
        simp only [Tr.k, Tr.n, Tr.kids] at p0 p1 r1 e1 hic
        rw [hn9] at hsp
        have hfp := flatT_pos (.mk k n kids)
        have hL : n9 + 1 ≤ (flatL ts).length := by omega
        have i1 : (0 : Int) ≤ (i : Int) := by omega
        have i2 : (i : Int) < (N : Int) := by omega
        clear hx la HIH HFT HST HSP HSS hp'
        by_cases hc1 : L0 ≤ n9
        · have HNO : Hid (¬ (shL ts = true ∧ (flatL ts).length ≤ L0 ∧ (flatL ts).length + 1 ≤ D)) := Lib.hid (fun h => by omega)
          have c1 : (L0 : Int) ≤ (n9 : Int) := by omega
          clear hft hst hsp hss hic r1 e1 hfp hL
          have BB2 := BB
          rcases kinds_any k with ⟨q3, -⟩ | ⟨⟨q3, q4⟩, -⟩ | ⟨⟨q3, q4, q6⟩, -⟩ | ⟨⟨q3, q4, q6, q5⟩, -⟩ | ⟨⟨q3, q4, q6, q5, q7⟩, -⟩ | ⟨⟨q3, q4, q6, q5, q7⟩, -⟩
          all_goals
            go_wp2_with fail
            go_ret2
            exact .inr ⟨HNO.out, rfl, BB.out.alloc BB.out.size _⟩
        have c1 : ¬ (L0 : Int) ≤ (n9 : Int) := by omega
        by_cases hc2 : D = 0
        · have HNO : Hid (¬ (shL ts = true ∧ (flatL ts).length ≤ L0 ∧ (flatL ts).length + 1 ≤ D)) := Lib.hid (fun h => by omega)
          have c2 : dp < 0 := by have := HDP.out; omega
          clear hft hst hsp hss hic r1 e1 hfp hL hc2
          rcases kinds_any k with ⟨q3, -⟩ | ⟨⟨q3, q4⟩, -⟩ | ⟨⟨q3, q4, q6⟩, -⟩ | ⟨⟨q3, q4, q6, q5⟩, -⟩ | ⟨⟨q3, q4, q6, q5, q7⟩, -⟩ | ⟨⟨q3, q4, q6, q5, q7⟩, -⟩
          all_goals
            go_wp2_with fail
            go_ret2
            exact .inr ⟨HNO.out, rfl, BB.out.alloc BB.out.size _⟩
        have c2 : ¬ dp < 0 := by have := HDP.out; omega
        rcases kinds_any k with ⟨q3, hk⟩ | ⟨⟨q3, q4⟩, hk⟩ | ⟨⟨q3, q4, q6⟩, hk⟩ | ⟨⟨q3, q4, q6, q5⟩, hk⟩ | ⟨⟨q3, q4, q6, q5, q7⟩, hk⟩ | ⟨⟨q3, q4, q6, q5, q7⟩, hk⟩
        · have q6 : (k == 6) = false := by simp only [beq_iff_eq, beq_eq_false_iff_ne] at *; omega
          have HE : Hid (endOf k = (5, 0)) := Lib.hid (by unfold endOf; simp only [beq_iff_eq, beq_eq_false_iff_ne] at *; rw [if_neg (by omega)])
          rw [flatT_nest hk] at hft hsp
          simp only [List.length_cons, List.length_append, List.length_nil] at hsp
          obtain ⟨D2, rfl⟩ : ∃ D2, D = D2 + 1 := ⟨D - 1, by omega⟩
          obtain ⟨L2, hL2⟩ : ∃ L2, L0 - (n9 + 1) = L2 := ⟨_, rfl⟩
          have HC := Lib.hid (fun v W hr => hic D2 L2 (dp - 1) (by have := HDP.out; omega) (by omega) (by omega) v W hr)
          have HLE : Hid (L2 + (n9 + 1) = L0) := Lib.hid (by omega)
          have HNO : Hid (¬ (shL kids = true ∧ (flatL kids).length ≤ L2 ∧ (flatL kids).length + 1 ≤ D2) → ¬ (shL ts = true ∧ (flatL ts).length ≤ L0 ∧ (flatL ts).length + 1 ≤ D2 + 1)) := Lib.hid (fun h1 h2 => h1 (by
            have := hss h2.1
            simp only [Tr.sh, Bool.and_eq_true, decide_eq_true_eq] at this
            rw [if_pos hk] at this
            exact ⟨this.2, by omega, by omega⟩))
          have HSH2 : Hid (shL kids = true → shL (ts.take (i + 1)) = true) := Lib.hid (fun hsk => by rw [hst, HSH.out]; simp only [Tr.sh, Bool.true_and, Bool.and_eq_true, decide_eq_true_eq]; rw [if_pos hk]; exact ⟨by omega, hsk⟩)
          have HFN : Hid ((flatL (ts.take (i + 1))).length = n9 + 1 + (flatL kids).length + 1) := Lib.hid (by rw [hft]; simp only [List.length_append, List.length_cons, List.length_nil, hn9]; omega)
          have HFL : Hid (slv (flatL (ts.take (i + 1))) = slv (flatL (ts.take i)) ++ [.int .i64 k, .int .i32 n] ++ slv (flatL kids) ++ [.int .i64 5, .int .i32 0]) := Lib.hid (by rw [hft, slv_app]; simp only [slv, slv_app, HE.out, List.append_assoc, List.cons_append, List.nil_append])
          obtain ⟨W1, hW1⟩ : ∃ W, W = wr.alloc (.cells #[.int .i64 k, .int .i32 n, .slice B m bc] 83) := ⟨_, rfl⟩
          have K1 : Blk W1 wr.heap.size 83 #[.int .i64 k, .int .i32 n, .slice B m bc] := by rw [hW1]; exact Blk.new wr _ _
          have HB1 : Hid (Below w.heap.size w W1) := Lib.hid (by rw [hW1]; exact BB.out.alloc BB.out.size _)
          have R1 : Hid (W1.ownsRow w.heap.size 75 2 (.slice E n9 ec) n9 (slv (flatL (ts.take i)))) := Lib.hid (by rw [hW1]; exact RW.out.alloc _)
          have e0 : W1.cell? ⟨wr.heap.size, 0, none⟩ = some (.int .i64 k) := K1.cell 0
          have e1' : W1.cell? ⟨wr.heap.size, 1, none⟩ = some (.int .i32 n) := K1.cell 1
          have lz : wr.heap.size < W1.heap.size := K1.lt
          have HW1 := Lib.hid hW1
          have HB2 := Lib.hid (HB1.out.alloc HB1.out.size (.cells #[.int .i64 k, .int .i32 n] 75))
          have RB := Lib.hid (R1.out.alloc (.cells #[.int .i64 k, .int .i32 n] 75))
          have KB := Lib.hid (K1.alloc (.cells #[.int .i64 k, .int .i32 n] 75))
          have HNE : Hid (∀ g, (Value.slice E n9 ec).ownBlock = some g → g < wr.heap.size) := Lib.hid (fun g hg => (World.ownsRow.lt RW.out g hg).2)
          have SRC := Lib.hid (src_two W1 (.int .i64 k) (.int .i32 n))
          have RK := Lib.hid (fun W (h : Below w.heap.size w W) => r1.stay h)
          have hn60 : n9 < 60 := by omega
          have q5 : (k == 5) = false := by simp only [beq_eq_false_iff_ne]; omega
          have q7 : (k == 7) = false := by simp only [beq_eq_false_iff_ne]; omega
          have zl : (L0 : Int) - ((n9 : Int) + 1) = (L2 : Int) := by omega
          clear hft hst hsp hss hic r1 e1 hfp hL hc2 hk hn9 hW1 K1 HB1 R1 HSH RW hL2
          go_upto_region 9 with (fail)
          rw [← HW1.out]
          clear HW1 p0 p1 p2
          go_wp2_with (at_builtin; refine wpList_append_src rfl _ _ 24 rfl w.heap.size 75 i0 (.agg #[.int .i64 0, .int .i32 0]) 2 16 Try.underlying24 hi0 hz0 hz1 hz2 rfl (by decide) _ n9 (slv (flatL (ts.take i))) rfl (RB.out) _ 1 [.int .i64 k, .int .i32 n] rfl SRC.out (by simp [Value.oneCell']) (by unfold maxLen; omega) (by omega) (by have := HB2.out.size; omega) ?_; intro v9 w9 ho9 ha9; refine unstop ?_)
          refine Stop.go ?_
          have BB9 : Hid (Below w.heap.size w w9) := Lib.hid (HB2.out.grown ha9.out.grown HB2.out.size (fun k hk => (World.ownsRow.lt RB.out k hk).1))
          have K9 := Lib.hid (KB.out.grown ha9.out.grown (fun e => by have := HNE.out _ e.symm; omega))
          obtain ⟨E9, ec9, rfl⟩ := own_formS ho9
          have R9 := Lib.hid ho9
          have e2 : w9.cell? ⟨wr.heap.size, 2, none⟩ = some (.slice B m bc) := K9.out.cell 2
          have lz9 : wr.heap.size < w9.heap.size := K9.out.lt
          have HW9 := Lib.hid ha9.out.where9
          have zz1 : wr.heap.size < (W1.alloc (.cells #[.int .i64 k, .int .i32 n] 75)).heap.size := by rw [World.size_alloc]; omega
          clear ho9 ha9 SRC KB RB e0 e1' lz
          have HZ9 := Lib.hid zz1
          clear zz1
          go_wp2_with fail
          refine (HC.out _ w9 (RK.out w9 BB9.out)).mono ?_
          rintro e w10 (⟨hsk, hlk, u10, rfl, ho10, hb10⟩ | ⟨hno, rfl, hb10⟩)
          · obtain ⟨U, uc, rfl⟩ := own_formS ho10
            have HSH3 := Lib.hid (HSH2.out hsk)
            have BB10 := Lib.hid (BB9.out.trans (hb10.mono BB9.out.size))
            have K10 := Lib.hid (K9.out.below hb10 K9.out.lt)
            have R10 := Lib.hid (row_keep R9.out hb10)
            have S10 := Lib.hid (src_row ho10)
            have HL10 := Lib.hid hb10.size
            obtain ⟨fk, hfk⟩ : ∃ fk, flatL kids = fk := ⟨_, rfl⟩
            rw [hfk] at hlk HFN HFL S10 ⊢
            obtain ⟨n10, hn10⟩ : ∃ n10, fk.length = n10 := ⟨_, rfl⟩
            rw [hn10] at hlk HFN S10 ⊢
            have hle := HLE.out
            clear hsk ho10 hb10 HC HSH2 HNO e2 lz9 K9 R9 hfk hn10 RK BB9
            go_wp2_with (at_builtin; refine wpList_append_src rfl _ _ 24 rfl w.heap.size 75 i0 (.agg #[.int .i64 0, .int .i32 0]) 2 16 Try.underlying24 hi0 hz0 hz1 hz2 rfl (by decide) _ (n9 + 1) _ rfl (R10.out) _ n10 (slv fk) rfl S10.out (slv_ones fk) (by unfold maxLen; omega) (by omega) (by have := BB10.out.size; omega) ?_; intro v11 w11 ho11 ha11; refine unstop ?_)
            refine Stop.go ?_
            have BB11 : Hid (Below w.heap.size w w11) := Lib.hid (BB10.out.grown ha11.out.grown BB10.out.size (fun k hk => (World.ownsRow.lt R10.out k hk).1))
            have K11 := Lib.hid (K10.out.grown ha11.out.grown (fun e => by
              have h1 := HW9.out _ e.symm
              rcases h1 with h1 | h1
              · have := HNE.out _ h1; omega
              · have := HZ9.out; omega))
            obtain ⟨E11, ec11, rfl⟩ := own_formS ho11
            have e0 : w11.cell? ⟨wr.heap.size, 0, none⟩ = some (.int .i64 k) := K11.out.cell 0
            have lz : wr.heap.size < w11.heap.size := K11.out.lt
            have HB12 := Lib.hid (BB11.out.alloc BB11.out.size (.cells #[.int .i64 5, .int .i32 0] 75))
            have R12 := Lib.hid (ho11.alloc (.cells #[.int .i64 5, .int .i32 0] 75))
            have SRC := Lib.hid (src_two w11 (.int .i64 5) (.int .i32 0))
            clear ho11 ha11 S10 K10 R10 BB10 HNE HW9 HZ9 K11
            go_wp2_with (at_builtin; refine wpList_append_src rfl _ _ 24 rfl w.heap.size 75 i0 (.agg #[.int .i64 0, .int .i32 0]) 2 16 Try.underlying24 hi0 hz0 hz1 hz2 rfl (by decide) _ (n9 + 1 + n10) _ rfl (R12.out) _ 1 [.int .i64 5, .int .i32 0] rfl SRC.out (by simp [Value.oneCell']) (by unfold maxLen; omega) (by omega) (by have := HB12.out.size; omega) ?_; intro v13 w13 ho13 ha13; refine unstop ?_)
            refine Stop.go ?_
            have BB13 : Hid (Below w.heap.size w w13) := Lib.hid (HB12.out.grown ha13.out.grown HB12.out.size (fun k hk => (World.ownsRow.lt R12.out k hk).1))
            have R13 : Hid (w13.ownsRow w.heap.size 75 2 v13 (flatL (ts.take (i + 1))).length (slv (flatL (ts.take (i + 1))))) := Lib.hid (by rw [HFN.out, HFL.out]; exact ho13)
            clear ho13 ha13 SRC e0 lz
            go_wp2_with fail
            go_roundw
            case rel => exact ⟨i + 1, v13, by go_num, rfl, by omega, by rw [HFN.out]; omega, HSH3, R13, BB13⟩
            case measure => simp [intOf]; omega
          · have HNO2 := Lib.hid (HNO.out hno)
            have BB10 := Lib.hid (BB9.out.trans (hb10.mono BB9.out.size))
            clear hno hb10 HC HSH2 HNO HFN HFL R9 K9 BB9 RK
            go_wp2_with fail
            go_ret2
            exact .inr ⟨HNO2.out, rfl, BB10.out⟩
        · have q6 : (k == 6) = false := by simp only [beq_iff_eq, beq_eq_false_iff_ne] at *; omega
          have HE : Hid (endOf k = (5, 0)) := Lib.hid (by unfold endOf; simp only [beq_iff_eq, beq_eq_false_iff_ne] at *; rw [if_neg (by omega)])
          rw [flatT_nest hk] at hft hsp
          simp only [List.length_cons, List.length_append, List.length_nil] at hsp
          obtain ⟨D2, rfl⟩ : ∃ D2, D = D2 + 1 := ⟨D - 1, by omega⟩
          obtain ⟨L2, hL2⟩ : ∃ L2, L0 - (n9 + 1) = L2 := ⟨_, rfl⟩
          have HC := Lib.hid (fun v W hr => hic D2 L2 (dp - 1) (by have := HDP.out; omega) (by omega) (by omega) v W hr)
          have HLE : Hid (L2 + (n9 + 1) = L0) := Lib.hid (by omega)
          have HNO : Hid (¬ (shL kids = true ∧ (flatL kids).length ≤ L2 ∧ (flatL kids).length + 1 ≤ D2) → ¬ (shL ts = true ∧ (flatL ts).length ≤ L0 ∧ (flatL ts).length + 1 ≤ D2 + 1)) := Lib.hid (fun h1 h2 => h1 (by
            have := hss h2.1
            simp only [Tr.sh, Bool.and_eq_true, decide_eq_true_eq] at this
            rw [if_pos hk] at this
            exact ⟨this.2, by omega, by omega⟩))
          have HSH2 : Hid (shL kids = true → shL (ts.take (i + 1)) = true) := Lib.hid (fun hsk => by rw [hst, HSH.out]; simp only [Tr.sh, Bool.true_and, Bool.and_eq_true, decide_eq_true_eq]; rw [if_pos hk]; exact ⟨by omega, hsk⟩)
          have HFN : Hid ((flatL (ts.take (i + 1))).length = n9 + 1 + (flatL kids).length + 1) := Lib.hid (by rw [hft]; simp only [List.length_append, List.length_cons, List.length_nil, hn9]; omega)
          have HFL : Hid (slv (flatL (ts.take (i + 1))) = slv (flatL (ts.take i)) ++ [.int .i64 k, .int .i32 n] ++ slv (flatL kids) ++ [.int .i64 5, .int .i32 0]) := Lib.hid (by rw [hft, slv_app]; simp only [slv, slv_app, HE.out, List.append_assoc, List.cons_append, List.nil_append])
          obtain ⟨W1, hW1⟩ : ∃ W, W = wr.alloc (.cells #[.int .i64 k, .int .i32 n, .slice B m bc] 83) := ⟨_, rfl⟩
          have K1 : Blk W1 wr.heap.size 83 #[.int .i64 k, .int .i32 n, .slice B m bc] := by rw [hW1]; exact Blk.new wr _ _
          have HB1 : Hid (Below w.heap.size w W1) := Lib.hid (by rw [hW1]; exact BB.out.alloc BB.out.size _)
          have R1 : Hid (W1.ownsRow w.heap.size 75 2 (.slice E n9 ec) n9 (slv (flatL (ts.take i)))) := Lib.hid (by rw [hW1]; exact RW.out.alloc _)
          have e0 : W1.cell? ⟨wr.heap.size, 0, none⟩ = some (.int .i64 k) := K1.cell 0
          have e1' : W1.cell? ⟨wr.heap.size, 1, none⟩ = some (.int .i32 n) := K1.cell 1
          have lz : wr.heap.size < W1.heap.size := K1.lt
          have HW1 := Lib.hid hW1
          have HB2 := Lib.hid (HB1.out.alloc HB1.out.size (.cells #[.int .i64 k, .int .i32 n] 75))
          have RB := Lib.hid (R1.out.alloc (.cells #[.int .i64 k, .int .i32 n] 75))
          have KB := Lib.hid (K1.alloc (.cells #[.int .i64 k, .int .i32 n] 75))
          have HNE : Hid (∀ g, (Value.slice E n9 ec).ownBlock = some g → g < wr.heap.size) := Lib.hid (fun g hg => (World.ownsRow.lt RW.out g hg).2)
          have SRC := Lib.hid (src_two W1 (.int .i64 k) (.int .i32 n))
          have RK := Lib.hid (fun W (h : Below w.heap.size w W) => r1.stay h)
          have hn60 : n9 < 60 := by omega
          have q5 : (k == 5) = false := by simp only [beq_eq_false_iff_ne]; omega
          have q7 : (k == 7) = false := by simp only [beq_eq_false_iff_ne]; omega
          have zl : (L0 : Int) - ((n9 : Int) + 1) = (L2 : Int) := by omega
          clear hft hst hsp hss hic r1 e1 hfp hL hc2 hk hn9 hW1 K1 HB1 R1 HSH RW hL2
          go_upto_region 9 with (fail)
          rw [← HW1.out]
          clear HW1 p0 p1 p2
          go_wp2_with (at_builtin; refine wpList_append_src rfl _ _ 24 rfl w.heap.size 75 i0 (.agg #[.int .i64 0, .int .i32 0]) 2 16 Try.underlying24 hi0 hz0 hz1 hz2 rfl (by decide) _ n9 (slv (flatL (ts.take i))) rfl (RB.out) _ 1 [.int .i64 k, .int .i32 n] rfl SRC.out (by simp [Value.oneCell']) (by unfold maxLen; omega) (by omega) (by have := HB2.out.size; omega) ?_; intro v9 w9 ho9 ha9; refine unstop ?_)
          refine Stop.go ?_
          have BB9 : Hid (Below w.heap.size w w9) := Lib.hid (HB2.out.grown ha9.out.grown HB2.out.size (fun k hk => (World.ownsRow.lt RB.out k hk).1))
          have K9 := Lib.hid (KB.out.grown ha9.out.grown (fun e => by have := HNE.out _ e.symm; omega))
          obtain ⟨E9, ec9, rfl⟩ := own_formS ho9
          have R9 := Lib.hid ho9
          have e2 : w9.cell? ⟨wr.heap.size, 2, none⟩ = some (.slice B m bc) := K9.out.cell 2
          have lz9 : wr.heap.size < w9.heap.size := K9.out.lt
          have HW9 := Lib.hid ha9.out.where9
          have zz1 : wr.heap.size < (W1.alloc (.cells #[.int .i64 k, .int .i32 n] 75)).heap.size := by rw [World.size_alloc]; omega
          clear ho9 ha9 SRC KB RB e0 e1' lz
          have HZ9 := Lib.hid zz1
          clear zz1
          go_wp2_with fail
          refine (HC.out _ w9 (RK.out w9 BB9.out)).mono ?_
          rintro e w10 (⟨hsk, hlk, u10, rfl, ho10, hb10⟩ | ⟨hno, rfl, hb10⟩)
          · obtain ⟨U, uc, rfl⟩ := own_formS ho10
            have HSH3 := Lib.hid (HSH2.out hsk)
            have BB10 := Lib.hid (BB9.out.trans (hb10.mono BB9.out.size))
            have K10 := Lib.hid (K9.out.below hb10 K9.out.lt)
            have R10 := Lib.hid (row_keep R9.out hb10)
            have S10 := Lib.hid (src_row ho10)
            have HL10 := Lib.hid hb10.size
            obtain ⟨fk, hfk⟩ : ∃ fk, flatL kids = fk := ⟨_, rfl⟩
            rw [hfk] at hlk HFN HFL S10 ⊢
            obtain ⟨n10, hn10⟩ : ∃ n10, fk.length = n10 := ⟨_, rfl⟩
            rw [hn10] at hlk HFN S10 ⊢
            have hle := HLE.out
            clear hsk ho10 hb10 HC HSH2 HNO e2 lz9 K9 R9 hfk hn10 RK BB9
            go_wp2_with (at_builtin; refine wpList_append_src rfl _ _ 24 rfl w.heap.size 75 i0 (.agg #[.int .i64 0, .int .i32 0]) 2 16 Try.underlying24 hi0 hz0 hz1 hz2 rfl (by decide) _ (n9 + 1) _ rfl (R10.out) _ n10 (slv fk) rfl S10.out (slv_ones fk) (by unfold maxLen; omega) (by omega) (by have := BB10.out.size; omega) ?_; intro v11 w11 ho11 ha11; refine unstop ?_)
            refine Stop.go ?_
            have BB11 : Hid (Below w.heap.size w w11) := Lib.hid (BB10.out.grown ha11.out.grown BB10.out.size (fun k hk => (World.ownsRow.lt R10.out k hk).1))
            have K11 := Lib.hid (K10.out.grown ha11.out.grown (fun e => by
              have h1 := HW9.out _ e.symm
              rcases h1 with h1 | h1
              · have := HNE.out _ h1; omega
              · have := HZ9.out; omega))
            obtain ⟨E11, ec11, rfl⟩ := own_formS ho11
            have e0 : w11.cell? ⟨wr.heap.size, 0, none⟩ = some (.int .i64 k) := K11.out.cell 0
            have lz : wr.heap.size < w11.heap.size := K11.out.lt
            have HB12 := Lib.hid (BB11.out.alloc BB11.out.size (.cells #[.int .i64 5, .int .i32 0] 75))
            have R12 := Lib.hid (ho11.alloc (.cells #[.int .i64 5, .int .i32 0] 75))
            have SRC := Lib.hid (src_two w11 (.int .i64 5) (.int .i32 0))
            clear ho11 ha11 S10 K10 R10 BB10 HNE HW9 HZ9 K11
            go_wp2_with (at_builtin; refine wpList_append_src rfl _ _ 24 rfl w.heap.size 75 i0 (.agg #[.int .i64 0, .int .i32 0]) 2 16 Try.underlying24 hi0 hz0 hz1 hz2 rfl (by decide) _ (n9 + 1 + n10) _ rfl (R12.out) _ 1 [.int .i64 5, .int .i32 0] rfl SRC.out (by simp [Value.oneCell']) (by unfold maxLen; omega) (by omega) (by have := HB12.out.size; omega) ?_; intro v13 w13 ho13 ha13; refine unstop ?_)
            refine Stop.go ?_
            have BB13 : Hid (Below w.heap.size w w13) := Lib.hid (HB12.out.grown ha13.out.grown HB12.out.size (fun k hk => (World.ownsRow.lt R12.out k hk).1))
            have R13 : Hid (w13.ownsRow w.heap.size 75 2 v13 (flatL (ts.take (i + 1))).length (slv (flatL (ts.take (i + 1))))) := Lib.hid (by rw [HFN.out, HFL.out]; exact ho13)
            clear ho13 ha13 SRC e0 lz
            go_wp2_with fail
            go_roundw
            case rel => exact ⟨i + 1, v13, by go_num, rfl, by omega, by rw [HFN.out]; omega, HSH3, R13, BB13⟩
            case measure => simp [intOf]; omega
          · have HNO2 := Lib.hid (HNO.out hno)
            have BB10 := Lib.hid (BB9.out.trans (hb10.mono BB9.out.size))
            clear hno hb10 HC HSH2 HNO HFN HFL R9 K9 BB9 RK
            go_wp2_with fail
            go_ret2
            exact .inr ⟨HNO2.out, rfl, BB10.out⟩
        · have q6b := q6
          have HE : Hid (endOf k = (7, 0)) := Lib.hid (by unfold endOf; simp only [beq_iff_eq, beq_eq_false_iff_ne] at *; rw [if_pos (by omega)])
          rw [flatT_nest hk] at hft hsp
          simp only [List.length_cons, List.length_append, List.length_nil] at hsp
          obtain ⟨D2, rfl⟩ : ∃ D2, D = D2 + 1 := ⟨D - 1, by omega⟩
          obtain ⟨L2, hL2⟩ : ∃ L2, L0 - (n9 + 1) = L2 := ⟨_, rfl⟩
          have HC := Lib.hid (fun v W hr => hic D2 L2 (dp - 1) (by have := HDP.out; omega) (by omega) (by omega) v W hr)
          have HLE : Hid (L2 + (n9 + 1) = L0) := Lib.hid (by omega)
          have HNO : Hid (¬ (shL kids = true ∧ (flatL kids).length ≤ L2 ∧ (flatL kids).length + 1 ≤ D2) → ¬ (shL ts = true ∧ (flatL ts).length ≤ L0 ∧ (flatL ts).length + 1 ≤ D2 + 1)) := Lib.hid (fun h1 h2 => h1 (by
            have := hss h2.1
            simp only [Tr.sh, Bool.and_eq_true, decide_eq_true_eq] at this
            rw [if_pos hk] at this
            exact ⟨this.2, by omega, by omega⟩))
          have HSH2 : Hid (shL kids = true → shL (ts.take (i + 1)) = true) := Lib.hid (fun hsk => by rw [hst, HSH.out]; simp only [Tr.sh, Bool.true_and, Bool.and_eq_true, decide_eq_true_eq]; rw [if_pos hk]; exact ⟨by omega, hsk⟩)
          have HFN : Hid ((flatL (ts.take (i + 1))).length = n9 + 1 + (flatL kids).length + 1) := Lib.hid (by rw [hft]; simp only [List.length_append, List.length_cons, List.length_nil, hn9]; omega)
          have HFL : Hid (slv (flatL (ts.take (i + 1))) = slv (flatL (ts.take i)) ++ [.int .i64 k, .int .i32 n] ++ slv (flatL kids) ++ [.int .i64 7, .int .i32 0]) := Lib.hid (by rw [hft, slv_app]; simp only [slv, slv_app, HE.out, List.append_assoc, List.cons_append, List.nil_append])
          obtain ⟨W1, hW1⟩ : ∃ W, W = wr.alloc (.cells #[.int .i64 k, .int .i32 n, .slice B m bc] 83) := ⟨_, rfl⟩
          have K1 : Blk W1 wr.heap.size 83 #[.int .i64 k, .int .i32 n, .slice B m bc] := by rw [hW1]; exact Blk.new wr _ _
          have HB1 : Hid (Below w.heap.size w W1) := Lib.hid (by rw [hW1]; exact BB.out.alloc BB.out.size _)
          have R1 : Hid (W1.ownsRow w.heap.size 75 2 (.slice E n9 ec) n9 (slv (flatL (ts.take i)))) := Lib.hid (by rw [hW1]; exact RW.out.alloc _)
          have e0 : W1.cell? ⟨wr.heap.size, 0, none⟩ = some (.int .i64 k) := K1.cell 0
          have e1' : W1.cell? ⟨wr.heap.size, 1, none⟩ = some (.int .i32 n) := K1.cell 1
          have lz : wr.heap.size < W1.heap.size := K1.lt
          have HW1 := Lib.hid hW1
          have HB2 := Lib.hid (HB1.out.alloc HB1.out.size (.cells #[.int .i64 k, .int .i32 n] 75))
          have RB := Lib.hid (R1.out.alloc (.cells #[.int .i64 k, .int .i32 n] 75))
          have KB := Lib.hid (K1.alloc (.cells #[.int .i64 k, .int .i32 n] 75))
          have HNE : Hid (∀ g, (Value.slice E n9 ec).ownBlock = some g → g < wr.heap.size) := Lib.hid (fun g hg => (World.ownsRow.lt RW.out g hg).2)
          have SRC := Lib.hid (src_two W1 (.int .i64 k) (.int .i32 n))
          have RK := Lib.hid (fun W (h : Below w.heap.size w W) => r1.stay h)
          have hn60 : n9 < 60 := by omega
          have q5 : (k == 5) = false := by simp only [beq_eq_false_iff_ne]; omega
          have q7 : (k == 7) = false := by simp only [beq_eq_false_iff_ne]; omega
          have zl : (L0 : Int) - ((n9 : Int) + 1) = (L2 : Int) := by omega
          clear hft hst hsp hss hic r1 e1 hfp hL hc2 hk hn9 hW1 K1 HB1 R1 HSH RW hL2
          go_upto_region 9 with (fail)
          rw [← HW1.out]
          clear HW1 p0 p1 p2
          go_wp2_with (at_builtin; refine wpList_append_src rfl _ _ 24 rfl w.heap.size 75 i0 (.agg #[.int .i64 0, .int .i32 0]) 2 16 Try.underlying24 hi0 hz0 hz1 hz2 rfl (by decide) _ n9 (slv (flatL (ts.take i))) rfl (RB.out) _ 1 [.int .i64 k, .int .i32 n] rfl SRC.out (by simp [Value.oneCell']) (by unfold maxLen; omega) (by omega) (by have := HB2.out.size; omega) ?_; intro v9 w9 ho9 ha9; refine unstop ?_)
          refine Stop.go ?_
          have BB9 : Hid (Below w.heap.size w w9) := Lib.hid (HB2.out.grown ha9.out.grown HB2.out.size (fun k hk => (World.ownsRow.lt RB.out k hk).1))
          have K9 := Lib.hid (KB.out.grown ha9.out.grown (fun e => by have := HNE.out _ e.symm; omega))
          obtain ⟨E9, ec9, rfl⟩ := own_formS ho9
          have R9 := Lib.hid ho9
          have e2 : w9.cell? ⟨wr.heap.size, 2, none⟩ = some (.slice B m bc) := K9.out.cell 2
          have lz9 : wr.heap.size < w9.heap.size := K9.out.lt
          have HW9 := Lib.hid ha9.out.where9
          have zz1 : wr.heap.size < (W1.alloc (.cells #[.int .i64 k, .int .i32 n] 75)).heap.size := by rw [World.size_alloc]; omega
          clear ho9 ha9 SRC KB RB e0 e1' lz
          have HZ9 := Lib.hid zz1
          clear zz1
          go_wp2_with fail
          refine (HC.out _ w9 (RK.out w9 BB9.out)).mono ?_
          rintro e w10 (⟨hsk, hlk, u10, rfl, ho10, hb10⟩ | ⟨hno, rfl, hb10⟩)
          · obtain ⟨U, uc, rfl⟩ := own_formS ho10
            have HSH3 := Lib.hid (HSH2.out hsk)
            have BB10 := Lib.hid (BB9.out.trans (hb10.mono BB9.out.size))
            have K10 := Lib.hid (K9.out.below hb10 K9.out.lt)
            have R10 := Lib.hid (row_keep R9.out hb10)
            have S10 := Lib.hid (src_row ho10)
            have HL10 := Lib.hid hb10.size
            obtain ⟨fk, hfk⟩ : ∃ fk, flatL kids = fk := ⟨_, rfl⟩
            rw [hfk] at hlk HFN HFL S10 ⊢
            obtain ⟨n10, hn10⟩ : ∃ n10, fk.length = n10 := ⟨_, rfl⟩
            rw [hn10] at hlk HFN S10 ⊢
            have hle := HLE.out
            clear hsk ho10 hb10 HC HSH2 HNO e2 lz9 K9 R9 hfk hn10 RK BB9
            go_wp2_with (at_builtin; refine wpList_append_src rfl _ _ 24 rfl w.heap.size 75 i0 (.agg #[.int .i64 0, .int .i32 0]) 2 16 Try.underlying24 hi0 hz0 hz1 hz2 rfl (by decide) _ (n9 + 1) _ rfl (R10.out) _ n10 (slv fk) rfl S10.out (slv_ones fk) (by unfold maxLen; omega) (by omega) (by have := BB10.out.size; omega) ?_; intro v11 w11 ho11 ha11; refine unstop ?_)
            refine Stop.go ?_
            have BB11 : Hid (Below w.heap.size w w11) := Lib.hid (BB10.out.grown ha11.out.grown BB10.out.size (fun k hk => (World.ownsRow.lt R10.out k hk).1))
            have K11 := Lib.hid (K10.out.grown ha11.out.grown (fun e => by
              have h1 := HW9.out _ e.symm
              rcases h1 with h1 | h1
              · have := HNE.out _ h1; omega
              · have := HZ9.out; omega))
            obtain ⟨E11, ec11, rfl⟩ := own_formS ho11
            have e0 : w11.cell? ⟨wr.heap.size, 0, none⟩ = some (.int .i64 k) := K11.out.cell 0
            have lz : wr.heap.size < w11.heap.size := K11.out.lt
            have HB12 := Lib.hid (BB11.out.alloc BB11.out.size (.cells #[.int .i64 7, .int .i32 0] 75))
            have R12 := Lib.hid (ho11.alloc (.cells #[.int .i64 7, .int .i32 0] 75))
            have SRC := Lib.hid (src_two w11 (.int .i64 7) (.int .i32 0))
            clear ho11 ha11 S10 K10 R10 BB10 HNE HW9 HZ9 K11
            go_wp2_with (at_builtin; refine wpList_append_src rfl _ _ 24 rfl w.heap.size 75 i0 (.agg #[.int .i64 0, .int .i32 0]) 2 16 Try.underlying24 hi0 hz0 hz1 hz2 rfl (by decide) _ (n9 + 1 + n10) _ rfl (R12.out) _ 1 [.int .i64 7, .int .i32 0] rfl SRC.out (by simp [Value.oneCell']) (by unfold maxLen; omega) (by omega) (by have := HB12.out.size; omega) ?_; intro v13 w13 ho13 ha13; refine unstop ?_)
            refine Stop.go ?_
            have BB13 : Hid (Below w.heap.size w w13) := Lib.hid (HB12.out.grown ha13.out.grown HB12.out.size (fun k hk => (World.ownsRow.lt R12.out k hk).1))
            have R13 : Hid (w13.ownsRow w.heap.size 75 2 v13 (flatL (ts.take (i + 1))).length (slv (flatL (ts.take (i + 1))))) := Lib.hid (by rw [HFN.out, HFL.out]; exact ho13)
            clear ho13 ha13 SRC e0 lz
            go_wp2_with fail
            go_roundw
            case rel => exact ⟨i + 1, v13, by go_num, rfl, by omega, by rw [HFN.out]; omega, HSH3, R13, BB13⟩
            case measure => simp [intOf]; omega
          · have HNO2 := Lib.hid (HNO.out hno)
            have BB10 := Lib.hid (BB9.out.trans (hb10.mono BB9.out.size))
            clear hno hb10 HC HSH2 HNO HFN HFL R9 K9 BB9 RK
            go_wp2_with fail
            go_ret2
            exact .inr ⟨HNO2.out, rfl, BB10.out⟩
        · have HNO : Hid (¬ (shL ts = true ∧ (flatL ts).length ≤ L0 ∧ (flatL ts).length + 1 ≤ D)) := Lib.hid (fun h => by have := hss h.1; simp only [Tr.sh, Bool.and_eq_true, decide_eq_true_eq] at this; omega)
          clear hft hst hsp hss hic r1 e1 hfp hL hc2 hk
          go_wp2_with fail
          go_ret2
          exact .inr ⟨HNO.out, rfl, BB.out.alloc BB.out.size _⟩
        · have HNO : Hid (¬ (shL ts = true ∧ (flatL ts).length ≤ L0 ∧ (flatL ts).length + 1 ≤ D)) := Lib.hid (fun h => by have := hss h.1; simp only [Tr.sh, Bool.and_eq_true, decide_eq_true_eq] at this; omega)
          clear hft hst hsp hss hic r1 e1 hfp hL hc2 hk
          go_wp2_with fail
          go_ret2
          exact .inr ⟨HNO.out, rfl, BB.out.alloc BB.out.size _⟩
        · by_cases hm : m = 0
          · subst hm
            have hk3 : ¬ (k = 3 ∨ k = 4 ∨ k = 6) := by omega
            have hkids : kids = [] := List.eq_nil_of_length_eq_zero e1.symm
            rw [flatT_leaf hk3] at hft
            have HSH2 : Hid (shL (ts.take (i + 1)) = true) := Lib.hid (by rw [hst, HSH.out]; simp only [Tr.sh, Bool.true_and, Bool.and_eq_true, decide_eq_true_eq]; rw [if_neg hk3, hkids]; exact ⟨⟨hk.2.2.1, hk.2.2.2.2⟩, rfl⟩)
            have hfl : (flatL (ts.take (i + 1))).length = n9 + 1 := by rw [hft, List.length_append, hn9]; rfl
            have HFL : Hid (slv (flatL (ts.take (i + 1))) = slv (flatL (ts.take i)) ++ [.int .i64 k, .int .i32 n]) := Lib.hid (by rw [hft, slv_app]; rfl)
            have HFN := Lib.hid hfl
            obtain ⟨W1, hW1⟩ : ∃ W, W = wr.alloc (.cells #[.int .i64 k, .int .i32 n, .slice B 0 bc] 83) := ⟨_, rfl⟩
            have K1 : Blk W1 wr.heap.size 83 #[.int .i64 k, .int .i32 n, .slice B 0 bc] := by rw [hW1]; exact Blk.new wr _ _
            have HB1 : Hid (Below w.heap.size w W1) := Lib.hid (by rw [hW1]; exact BB.out.alloc BB.out.size _)
            have R1 : Hid (W1.ownsRow w.heap.size 75 2 (.slice E n9 ec) n9 (slv (flatL (ts.take i)))) := Lib.hid (by rw [hW1]; exact RW.out.alloc _)
            have e0 : W1.cell? ⟨wr.heap.size, 0, none⟩ = some (.int .i64 k) := K1.cell 0
            have e1' : W1.cell? ⟨wr.heap.size, 1, none⟩ = some (.int .i32 n) := K1.cell 1
            have lz : wr.heap.size < W1.heap.size := K1.lt
            have HW1 := Lib.hid hW1
            have HB2 := Lib.hid (HB1.out.alloc HB1.out.size (.cells #[.int .i64 k, .int .i32 n] 75))
            have RB := Lib.hid (R1.out.alloc (.cells #[.int .i64 k, .int .i32 n] 75))
            have SRC := Lib.hid (src_two W1 (.int .i64 k) (.int .i32 n))
            have hn60 : n9 < 60 := by omega
            clear hft hst hsp hss hic r1 e1 hfp hL hc2 hk hk3 hkids hn9 hfl hW1 K1 HB1 R1 HSH RW
            go_upto_region 9 with (fail)
            rw [← HW1.out]
            clear HW1 p0 p1 p2
            go_wp2_with (at_builtin; refine wpList_append_src rfl _ _ 24 rfl w.heap.size 75 i0 (.agg #[.int .i64 0, .int .i32 0]) 2 16 Try.underlying24 hi0 hz0 hz1 hz2 rfl (by decide) _ n9 (slv (flatL (ts.take i))) rfl (RB.out) _ 1 [.int .i64 k, .int .i32 n] rfl SRC.out (by simp [Value.oneCell']) (by unfold maxLen; omega) (by omega) (by have := HB2.out.size; omega) ?_; intro v9 w9 ho9 ha9; refine unstop ?_)
            refine Stop.go ?_
            have BB9 : Hid (Below w.heap.size w w9) := Lib.hid (HB2.out.grown ha9.out.grown HB2.out.size (fun k hk => (World.ownsRow.lt RB.out k hk).1))
            have R9 : Hid (w9.ownsRow w.heap.size 75 2 v9 (flatL (ts.take (i + 1))).length (slv (flatL (ts.take (i + 1))))) := Lib.hid (by rw [HFN.out, HFL.out]; exact ho9)
            clear ho9 ha9 SRC
            go_wp2_with fail
            go_roundw
            case rel => exact ⟨i + 1, v9, by go_num, rfl, by omega, by rw [HFN.out]; omega, HSH2, R9, BB9⟩
            case measure => simp [intOf]; omega
          · have HNO : Hid (¬ (shL ts = true ∧ (flatL ts).length ≤ L0 ∧ (flatL ts).length + 1 ≤ D)) := Lib.hid (fun h => by
              have := hss h.1
              simp only [Tr.sh, Bool.and_eq_true, decide_eq_true_eq] at this
              rw [if_neg (by omega)] at this
              have h2 := this.2
              rw [List.isEmpty_iff] at h2
              rw [h2] at e1
              exact hm e1)
            have c3 : (0 : Int) < (m : Int) := by omega
            clear hft hst hsp hss hic r1 e1 hfp hL hc2 hk
            go_wp2_with fail
            go_ret2
            exact .inr ⟨HNO.out, rfl, BB.out.alloc BB.out.size _⟩
      · obtain rfl : i = N := by omega
        have HSE : Hid (shL ts = true) := Lib.hid (by rw [← HTL.out]; exact HSH.out)
        rw [HTL.out] at hn9 RW
        have HEN := Lib.hid hn9
        have hp2 : ¬ (i : Int) < (i : Int) := by omega
        clear hi hn9
        go_wp2_with fail
        go_ret2
        exact .inl ⟨HSE.out, by rw [HEN.out]; exact hlen, _, rfl, by rw [HEN.out]; exact RW.out, BB.out⟩
end Go.Proofs.Ytlkkobffgbjkpaa
