/-
  impl.grown, impl.TreeOf.
-/
import Derived.Test.YtlkkobffgbjkpaaTreesS
import Derived.Test.YtlkkobffgbjkpaaLimbs
import Derived.Test.YtlkkobffgbjkpaaShapeI
import Derived.Deep.Cut
namespace Go.Proofs.Ytlkkobffgbjkpaa
open Go.RowKit Go

theorem addrAdd2 (a : Addr) (i j : Nat) : (a.add i).add j = a.add (i + j) := by
  unfold Addr.add
  (repeat' split) <;> simp_all [Nat.add_assoc]
theorem RdS.drop {w : World} {a : Addr} {n cap : Nat} {xs : List (Int × Int)} (h : RdS w (.slice (some a) n cap) xs) (k : Nat) : RdS w (.slice (some (a.add (k * 2))) (xs.length - k) (cap - k)) (xs.drop k) := by
  obtain ⟨A', cap', e, hl, h⟩ := h
  injection e with e1 e2 e3
  subst e1 e2 e3
  refine ⟨_, _, by rw [List.length_drop], by rw [List.length_drop]; omega, fun i hi => ?_⟩
  rw [List.length_drop] at hi
  obtain ⟨a2, e1, e2, e3, e4⟩ := h (k + i) (by omega)
  injection e1 with e1
  subst e1
  refine ⟨a.add (k * 2), rfl, by rw [addr_addb]; exact e2, ?_, ?_⟩
  · rw [addrAdd2, ← Nat.add_mul, e3, List.getElem_drop]
  · rw [addrAdd2 a (k * 2) (i * 2), ← Nat.add_mul, e4, List.getElem_drop]
set_option maxRecDepth 100000 in
set_option maxHeartbeats 4000000 in
theorem impl_grownL : ∀ (M : Nat) (xs : List (Int × Int)), xs.length ≤ 60 → RngO xs → xs.all okOp = true → ∀ (ts : List Tr) (ys : List (Int × Int)), Grows xs ts ys → xs.length < M → ∀ (A : Option Addr) (cap : Nat) (w : World), xs.length ≤ cap → RdS w (.slice A xs.length cap) xs →
    Calls Try.prog 43 #[.slice A xs.length cap] w (TreesEnd ts (xs.length - ys.length) w) := by
  intro M
  induction M with
  | zero => intro xs hl hrg hok ts ys hg hM; omega
  | succ M ih =>
    intro xs hl hrg hok ts ys hg hM A cap w hcap hr
    obtain ⟨i0, hi0, hz0, hz1, hz2⟩ := info_parts infoTr
    have HR := Lib.hid (fun W (h : Below w.heap.size w W) => hr.below h)
    have HRG := Lib.hid hrg
    have HOK := Lib.hid (fun o (ho : o ∈ xs) => List.all_eq_true.1 hok o ho)
    have HIH := Lib.hid (fun p (h1 : 0 < p) (h2 : p ≤ xs.length) kids zs (hg : Grows (xs.drop p) kids zs) A cap W hc hr => ih (xs.drop p) (by rw [List.length_drop]; omega) (fun o ho => hrg o (List.mem_of_mem_drop ho)) (List.all_eq_true.2 fun o ho => List.all_eq_true.1 hok o (List.mem_of_mem_drop ho)) kids zs hg (by rw [List.length_drop]; omega) A cap W hc hr)
    have HG : Hid (Grows (xs.drop 0) ts ys) := Lib.hid (by simpa using hg)
    obtain ⟨N, hN⟩ : ∃ N, xs.length = N := ⟨_, rfl⟩
    have HN := Lib.hid hN
    obtain ⟨j, hj⟩ : ∃ j, N - ys.length = j := ⟨_, rfl⟩
    have HJ := Lib.hid hj
    rw [hN] at hl HIH HR hcap ⊢
    rw [hj]
    clear hr ih hg hM hN hj hrg hok
    go_enter Try.func43, Try.ntmps43
    go_wp2_with fail
    go_loopw [4, 5] (fun vo vp wr => ∃ (p : Nat) (u : Value) (done rest : List Tr) (S : Nat → Prop), vp = .int .i64 p ∧ vo = u ∧ p ≤ N ∧ done.length ≤ p ∧ Hid (ts = done ++ rest) ∧ Hid (Grows (xs.drop p) rest ys) ∧ Hid (OwnT wr w.heap.size u done S) ∧ Hid (Below w.heap.size w wr)) (fun _ vp _ => N - (intOf vp).toNat)
    case atStart => exact ⟨0, _, [], ts, _, rfl, rfl, by omega, by simp, Lib.hid rfl, HG, Lib.hid (OwnT.nil _ _), Lib.hid (Below.refl _ _)⟩
    case round =>
      obtain ⟨p, u, done, rest, S, rfl, rfl, hp, hdp, HT, HGR, HO, HB⟩ := hrel
      clear HG
      cases rest with
      | nil =>
        obtain ⟨hys, hstop⟩ := grows_nil HGR.out
        have hjp : j = p := by have := HJ.out; rw [hys, List.length_drop, HN.out] at this; omega
        have HTT : Hid (ts = done) := Lib.hid (by rw [HT.out]; simp)
        subst hjp
        by_cases hlt : j < N
        · obtain ⟨a, rfl, la, p0, p1⟩ := (HR.out wr HB.out).item (i := j) (by rw [HN.out]; exact hlt)
          have hk := hstop (xs[j]'(by rw [HN.out]; exact hlt)) (xs.drop (j + 1)) (List.drop_eq_getElem_cons _)
          obtain ⟨x, hx⟩ : ∃ x, xs[j]'(by rw [HN.out]; exact hlt) = x := ⟨_, rfl⟩
          obtain ⟨k, n⟩ := x
          rw [hx] at p0 p1 hk
          simp only at p0 p1 hk
          have i1 : (0 : Int) ≤ (j : Int) := by omega
          have i2 : (j : Int) < (N : Int) := by omega
          have HOB := Lib.hid (HO.out.bound)
          clear hstop hys hx HT HGR la
          rcases hk with rfl | rfl
          · go_wp2_with fail
            refine (bare_any 5 n _).mono ?_
            rintro e w2 ⟨rfl, hb2⟩
            have B2 := Lib.hid (hb2.alloc hb2.size (.cells #[.int .i64 5, .int .i32 n, .slice none 0 0] 83))
            clear hb2
            go_wp2_with fail
            refine (limb_end5 n _).mono ?_
            rintro e w3 ⟨rfl, hb3⟩
            have B3 := Lib.hid (B2.out.trans (hb3.mono B2.out.size))
            have HO3 := Lib.hid (HO.out.stay B3.out)
            have HB3 := Lib.hid (HB.out.trans (B3.out.mono HB.out.size))
            clear hb3 B2 B3 HO HB p0 p1
            go_wp2_with fail
            go_ret2
            exact ⟨_, S, rfl, by rw [HTT.out]; exact HO3.out, HB3.out⟩
          · go_wp2_with fail
            refine (bare_any 7 n _).mono ?_
            rintro e w2 ⟨rfl, hb2⟩
            have B2 := Lib.hid (hb2.alloc hb2.size (.cells #[.int .i64 7, .int .i32 n, .slice none 0 0] 83))
            clear hb2
            go_wp2_with fail
            refine (limb_end7 n _).mono ?_
            rintro e w3 ⟨rfl, hb3⟩
            have B3 := Lib.hid (B2.out.trans (hb3.mono B2.out.size))
            have HO3 := Lib.hid (HO.out.stay B3.out)
            have HB3 := Lib.hid (HB.out.trans (B3.out.mono HB.out.size))
            clear hb3 B2 B3 HO HB p0 p1
            go_wp2_with fail
            go_ret2
            exact ⟨_, S, rfl, by rw [HTT.out]; exact HO3.out, HB3.out⟩
        · have i2 : ¬ (j : Int) < (N : Int) := by omega
          clear hstop hys HT HGR
          go_wp2_with fail
          go_ret2
          exact ⟨_, S, rfl, by rw [HTT.out]; exact HO.out, HB.out⟩
      | cons t rest =>
        obtain ⟨f, bs, P⟩ := HO.out.parts
        obtain ⟨D, dc, rfl⟩ := own_formS P.row
        obtain ⟨k, n, r, hzs, hcase⟩ := grows_cons HGR.out
        obtain ⟨hlt, hx, hdr⟩ := drop_cons hzs
        obtain ⟨a, rfl, la, p0, p1⟩ := (HR.out wr HB.out).item hlt
        have hrx := HRG.out xs[p] (List.getElem_mem hlt)
        have hkx := HOK.out xs[p] (List.getElem_mem hlt)
        rw [hx] at p0 p1 hrx hkx
        simp only at p0 p1 hrx
        rw [HN.out] at hlt
        have i1 : (0 : Int) ≤ (p : Int) := by omega
        have i2 : (p : Int) < (N : Int) := by omega
        have HP := Lib.hid P
        have hdN : done.length ≤ 60 := by omega
        have HSB : Hid (∀ g, S g → g < wr.heap.size) := Lib.hid (fun g hg => (P.bound g hg).2)
        clear hzs hx HGR la P HO
        rcases hcase with ⟨n3, n4, n5, n6, n7, rfl, hgr⟩ | ⟨h346, kids, r2, rfl, hgk, hgr⟩
        · have HLM := Lib.hid (fun W => limb_leaf_true k n ⟨n3, n4, n5, n6, n7⟩ hkx hrx.1 hrx.2 W)
          have HT2 : Hid (ts = (done ++ [.mk k n []]) ++ rest) := Lib.hid (by rw [HT.out, List.append_assoc]; rfl)
          have HGR2 : Hid (Grows (xs.drop (p + 1)) rest ys) := Lib.hid (by rw [hdr]; exact hgr)
          clear n3 n4 n5 n6 n7 hdr hgr HT hrx hkx HIH
          go_wp2_with fail
          refine (bare_any k n _).mono ?_
          rintro e w2 ⟨rfl, hb2⟩
          have HB2 := Lib.hid hb2
          have B2 := Lib.hid (hb2.alloc hb2.size (.cells #[.int .i64 k, .int .i32 n, .slice none 0 0] 83))
          have K2 := Lib.hid (Blk.new w2 83 #[.int .i64 k, .int .i32 n, .slice none 0 0])
          clear hb2
          go_wp2_with fail
          refine (HLM.out _).mono ?_
          rintro e w3 ⟨rfl, hb3⟩
          have B3 := Lib.hid (B2.out.trans (hb3.mono B2.out.size))
          have K3 := Lib.hid (K2.out.below hb3 K2.out.lt)
          clear hb3 B2 K2 p0 p1
          go_wp2_with fail
          refine (inside_leaf k n _).mono ?_
          rintro e w4 ⟨rfl, hb4⟩
          have B4 := Lib.hid (B3.out.trans (hb4.mono B3.out.size))
          have K4 := Lib.hid (K3.out.below hb4 K3.out.lt)
          obtain ⟨W5, hW5⟩ : ∃ W, W = w4.alloc (.cells #[.int .i64 0, .int .i32 0] 75) := ⟨_, rfl⟩
          have hb5 : Below wr.heap.size wr W5 := by rw [hW5]; exact B4.out.alloc B4.out.size _
          have K5 := Lib.hid (show Blk W5 w2.heap.size 83 #[.int .i64 k, .int .i32 n, .slice none 0 0] by rw [hW5]; exact K4.out.alloc _)
          have HB5 := Lib.hid (HB.out.trans (hb5.mono HB.out.size))
          have P5 := Lib.hid (HP.out.kept hb5.size (fun g hg => hb5.block g (HP.out.bound g hg).2))
          have HW5 := Lib.hid hW5
          clear hb4 B3 K3 B4 K4 hW5 hb5 HB HP
          go_upto_region 9 with (fail)
          rw [← HW5.out]
          have e0 : W5.cell? ⟨w2.heap.size, 0, none⟩ = some (.int .i64 k) := K5.out.cell 0
          have e1 : W5.cell? ⟨w2.heap.size, 1, none⟩ = some (.int .i32 n) := K5.out.cell 1
          have e2 : W5.cell? ⟨w2.heap.size, 2, none⟩ = some (.slice none 0 0) := K5.out.cell 2
          have lz : w2.heap.size < W5.heap.size := K5.out.lt
          have HB6 := Lib.hid (HB5.out.alloc HB5.out.size (.cells #[.int .i64 k, .int .i32 n, .slice none 0 0] 83))
          have P6 := Lib.hid (P5.out.alloc (.cells #[.int .i64 k, .int .i32 n, .slice none 0 0] 83))
          have SRC := Lib.hid (src_three W5 (.int .i64 k) (.int .i32 n) (.slice none 0 0))
          clear HW5 K5 HB5 P5
          go_wp2_with (at_builtin; refine wpList_append_src rfl _ _ 26 rfl w.heap.size 83 i0 (.agg #[.int .i64 0, .int .i32 0, .slice none 0 0]) 3 40 Try.underlying26 hi0 hz0 hz1 hz2 rfl (by decide) _ done.length (trv f 0 done) rfl (P6.out.row) _ 1 [.int .i64 k, .int .i32 n, .slice none 0 0] rfl SRC.out (by simp [Value.oneCell']) (by unfold maxLen; omega) (by omega) (by have := HB6.out.size; omega) ?_; intro v9 w9 ho9 ha9; refine unstop ?_)
          refine Stop.go ?_
          have HB9 : Hid (Below w.heap.size w w9) := Lib.hid (HB6.out.grown ha9.out.grown (by have := HB6.out.size; omega) (fun k hk => (World.ownsRow.lt P6.out.row k hk).1))
          have HO9 := Lib.hid (P6.out.push (OwnT.nil _ _) (fun _ _ h => h) ho9 ha9.out)
          clear ho9 ha9 SRC
          go_wp2_with fail
          go_roundw
          case rel => exact ⟨p + 1, v9, _, rest, _, by go_num, rfl, by omega, by rw [List.length_append, List.length_singleton]; omega, HT2, HGR2, HO9, HB9⟩
          case measure => simp [intOf]; omega
        · have HT2 : Hid (ts = (done ++ [.mk k n kids]) ++ rest) := Lib.hid (by rw [HT.out, List.append_assoc]; rfl)
          have hsz := hgk.size
          have hsf := hgk.suffix
          have hrl : r.length = N - (p + 1) := by rw [← hdr, List.length_drop, HN.out]
          simp only [List.length_cons] at hsz hsf
          obtain ⟨Q, hQ⟩ : ∃ Q, N - (p + 1) - (r2.length + 1) = Q := ⟨_, rfl⟩
          have hQN : p + 1 + Q < N := by omega
          have hdq : xs.drop (p + 1 + Q) = endOf k :: r2 := by
            rw [hsf, ← hdr, List.drop_drop, List.length_drop, HN.out]
            congr 1
            omega
          have HGR2 : Hid (Grows (xs.drop (p + 1 + (Q + 1))) rest ys) := Lib.hid (by rw [show p + 1 + (Q + 1) = p + 1 + Q + 1 by omega, (drop_cons hdq).2.2]; exact hgr)
          have HC := Lib.hid (fun A cap W hc hr => HIH.out (p + 1) (by omega) (by omega) kids (endOf k :: r2) (by rw [hdr]; exact hgk) A cap W hc hr)
          simp only [List.length_cons, List.length_drop, HN.out] at HC
          rw [hQ] at HC
          have HDR := Lib.hid (fun W (h : Below w.heap.size w W) => (HR.out W h).drop (p + 1))
          rw [HN.out] at HDR
          have h57 : k ≠ 5 ∧ k ≠ 7 := by omega
          have HKD : Hid (done.length + 1 ≤ p + 1 + (Q + 1)) := Lib.hid (by omega)
          clear hdr hgr HT hsz hsf hrl hQ hdq hgk HIH HR h57
          have k2 : (p : Int) + 1 ≤ (N : Int) := by omega
          rcases h346 with rfl | rfl | rfl
          · have HLM := Lib.hid (fun W => limb_if n true hkx hrx.1 hrx.2 W)
            have HIN := Lib.hid (fun W => inside_fork 3 n W)
            clear hrx hkx
            go_wp2_with fail
            refine (bare_any 3 n _).mono ?_
            rintro e w2 ⟨rfl, hb2⟩
            have B2 := Lib.hid (hb2.alloc hb2.size (.cells #[.int .i64 3, .int .i32 n, .slice none 0 0] 83))
            have K2 := Lib.hid (Blk.new w2 83 #[.int .i64 3, .int .i32 n, .slice none 0 0])
            have HZ2 := Lib.hid hb2.size
            clear hb2
            go_wp2_with fail
            refine (HLM.out _).mono ?_
            rintro e w3 ⟨rfl, hb3⟩
            have B3 := Lib.hid (B2.out.trans (hb3.mono B2.out.size))
            have K3 := Lib.hid (K2.out.below hb3 K2.out.lt)
            clear hb3 B2 K2 p0 p1 HLM
            go_wp2_with fail
            refine (HIN.out _).mono ?_
            rintro e w4 ⟨rfl, hb4⟩
            have B4 := Lib.hid (B3.out.trans (hb4.mono B3.out.size))
            have K4 := Lib.hid (K3.out.below hb4 K3.out.lt)
            obtain ⟨W5, hW5⟩ : ∃ W, W = w4.alloc (.cells #[.int .i64 5, .int .i32 0] 75) := ⟨_, rfl⟩
            have hb5 : Below wr.heap.size wr W5 := by rw [hW5]; exact B4.out.alloc B4.out.size _
            have K5 := Lib.hid (show Blk W5 w2.heap.size 83 #[.int .i64 3, .int .i32 n, .slice none 0 0] by rw [hW5]; exact K4.out.alloc _)
            have HB5 := Lib.hid (HB.out.trans (hb5.mono HB.out.size))
            have P5 := Lib.hid (HP.out.kept hb5.size (fun g hg => hb5.block g (HP.out.bound g hg).2))
            have HW5 := Lib.hid hW5
            have HZ5 : Hid (wr.heap.size ≤ w2.heap.size ∧ w2.heap.size < W5.heap.size ∧ w.heap.size ≤ wr.heap.size) := Lib.hid ⟨HZ2.out, K5.out.lt, HB.out.size⟩
            clear hb4 B3 K3 B4 K4 hW5 hb5 HB HP HIN
            go_upto_region 9 with (fail)
            rw [← HW5.out]
            clear HW5
            go_wp2_with fail
            refine (HC.out _ (cap - (p + 1)) W5 (by omega) (HDR.out W5 HB5.out)).mono ?_
            rintro e w6 ⟨kv, S2, rfl, ho6, hb6⟩
            obtain ⟨KA, kc, rfl⟩ := ho6.rd.form
            have K6 := Lib.hid (K5.out.below hb6 K5.out.lt)
            have HB6 := Lib.hid (HB5.out.trans (hb6.mono HB5.out.size))
            obtain ⟨W7, hW7⟩ : ∃ W, W = w6.setCell ⟨w2.heap.size, 2, none⟩ (.slice KA kids.length kc) := ⟨_, rfl⟩
            have hg7 : w6.grownBy W7 (some w2.heap.size) := by rw [hW7]; exact only_setCell (World.grownBy.refl _ _) (.inl rfl) _
            have zz := HZ5.out
            have zz3 := hb6.size
            have k7 : Blk W7 w2.heap.size 83 #[.int .i64 3, .int .i32 n, .slice KA kids.length kc] := by rw [hW7]; exact K6.out.put 2 _
            have HB7 : Hid (Below w.heap.size w W7) := Lib.hid (by rw [hW7]; exact HB6.out.setCell (p := ⟨w2.heap.size, 2, none⟩) (Nat.le_trans zz.2.2 zz.1) _)
            have P7 : Hid (PartsT W7 w.heap.size (.slice D done.length dc) done S f bs) := Lib.hid (P5.out.kept (by have := hg7.size; omega) (fun g hg => (hg7.block g (by have := (P5.out.bound g hg).2; omega) (fun e => by injection e with e; have := HSB.out g hg; omega)).trans (hb6.block g (P5.out.bound g hg).2)))
            have hk7 : OwnT W7 w.heap.size (.slice KA kids.length kc) kids S2 := (ho6.kept hg7.size (fun g hg => hg7.block g (ho6.bound g hg).2 (fun e => by injection e with e; have := (ho6.bound g hg).1; omega))).mono (by omega)
            have HDIS : Hid (∀ g, S g → ¬ S2 g) := Lib.hid (fun g hg h2 => by have := HSB.out g hg; have := (ho6.bound g h2).1; omega)
            have e0 : W7.cell? ⟨w2.heap.size, 0, none⟩ = some (.int .i64 3) := k7.cell 0
            have e1 : W7.cell? ⟨w2.heap.size, 1, none⟩ = some (.int .i32 n) := k7.cell 1
            have e2 : W7.cell? ⟨w2.heap.size, 2, none⟩ = some (.slice KA kids.length kc) := k7.cell 2
            have g2 : w6.cell? ⟨w2.heap.size, 2, none⟩ = some (.slice none 0 0) := K6.out.cell 2
            have gf : w6.frozen? ⟨w2.heap.size, 2, none⟩ = false := K6.out.frozen 2
            have lz7 : w2.heap.size < W7.heap.size := k7.lt
            have HW7 := Lib.hid hW7
            have HB8 := Lib.hid (HB7.out.alloc HB7.out.size (.cells #[.int .i64 3, .int .i32 n, .slice KA kids.length kc] 83))
            have P8 := Lib.hid (P7.out.alloc (.cells #[.int .i64 3, .int .i32 n, .slice KA kids.length kc] 83))
            have HK8 := Lib.hid (hk7.stay (below_alloc1 W7 (.cells #[.int .i64 3, .int .i32 n, .slice KA kids.length kc] 83)))
            have SRC := Lib.hid (src_three W7 (.int .i64 3) (.int .i32 n) (.slice KA kids.length kc))
            clear ho6 hb6 K5 K6 HB5 HB6 HB7 P5 P7 hk7 hg7 hW7 k7 zz zz3 HC HDR HSB HZ5 HZ2
            go_upto_region 12 with (fail)
            rw [← HW7.out]
            clear g2 gf HW7
            go_wp2_with (at_builtin; refine wpList_append_src rfl _ _ 26 rfl w.heap.size 83 i0 (.agg #[.int .i64 0, .int .i32 0, .slice none 0 0]) 3 40 Try.underlying26 hi0 hz0 hz1 hz2 rfl (by decide) _ done.length (trv f 0 done) rfl (P8.out.row) _ 1 [.int .i64 3, .int .i32 n, .slice KA kids.length kc] rfl SRC.out (by simp [Value.oneCell']) (by unfold maxLen; omega) (by omega) (by have := HB8.out.size; omega) ?_; intro v9 w9 ho9 ha9; refine unstop ?_)
            refine Stop.go ?_
            have HB9 : Hid (Below w.heap.size w w9) := Lib.hid (HB8.out.grown ha9.out.grown (by have := HB8.out.size; omega) (fun k hk => (World.ownsRow.lt P8.out.row k hk).1))
            have HO9 := Lib.hid (P8.out.push HK8.out HDIS.out ho9 ha9.out)
            clear ho9 ha9 SRC
            go_wp2_with fail
            go_roundw
            case rel => exact ⟨p + 1 + (Q + 1), v9, _, rest, _, by go_num, rfl, by omega, by rw [List.length_append, List.length_singleton]; exact HKD.out, HT2, HGR2, HO9, HB9⟩
            case measure => simp [intOf]; omega
          · have HLM := Lib.hid (fun W => limb_unless n true hkx hrx.1 hrx.2 W)
            have HIN := Lib.hid (fun W => inside_fork 4 n W)
            clear hrx hkx
            go_wp2_with fail
            refine (bare_any 4 n _).mono ?_
            rintro e w2 ⟨rfl, hb2⟩
            have B2 := Lib.hid (hb2.alloc hb2.size (.cells #[.int .i64 4, .int .i32 n, .slice none 0 0] 83))
            have K2 := Lib.hid (Blk.new w2 83 #[.int .i64 4, .int .i32 n, .slice none 0 0])
            have HZ2 := Lib.hid hb2.size
            clear hb2
            go_wp2_with fail
            refine (HLM.out _).mono ?_
            rintro e w3 ⟨rfl, hb3⟩
            have B3 := Lib.hid (B2.out.trans (hb3.mono B2.out.size))
            have K3 := Lib.hid (K2.out.below hb3 K2.out.lt)
            clear hb3 B2 K2 p0 p1 HLM
            go_wp2_with fail
            refine (HIN.out _).mono ?_
            rintro e w4 ⟨rfl, hb4⟩
            have B4 := Lib.hid (B3.out.trans (hb4.mono B3.out.size))
            have K4 := Lib.hid (K3.out.below hb4 K3.out.lt)
            obtain ⟨W5, hW5⟩ : ∃ W, W = w4.alloc (.cells #[.int .i64 5, .int .i32 0] 75) := ⟨_, rfl⟩
            have hb5 : Below wr.heap.size wr W5 := by rw [hW5]; exact B4.out.alloc B4.out.size _
            have K5 := Lib.hid (show Blk W5 w2.heap.size 83 #[.int .i64 4, .int .i32 n, .slice none 0 0] by rw [hW5]; exact K4.out.alloc _)
            have HB5 := Lib.hid (HB.out.trans (hb5.mono HB.out.size))
            have P5 := Lib.hid (HP.out.kept hb5.size (fun g hg => hb5.block g (HP.out.bound g hg).2))
            have HW5 := Lib.hid hW5
            have HZ5 : Hid (wr.heap.size ≤ w2.heap.size ∧ w2.heap.size < W5.heap.size ∧ w.heap.size ≤ wr.heap.size) := Lib.hid ⟨HZ2.out, K5.out.lt, HB.out.size⟩
            clear hb4 B3 K3 B4 K4 hW5 hb5 HB HP HIN
            go_upto_region 9 with (fail)
            rw [← HW5.out]
            clear HW5
            go_wp2_with fail
            refine (HC.out _ (cap - (p + 1)) W5 (by omega) (HDR.out W5 HB5.out)).mono ?_
            rintro e w6 ⟨kv, S2, rfl, ho6, hb6⟩
            obtain ⟨KA, kc, rfl⟩ := ho6.rd.form
            have K6 := Lib.hid (K5.out.below hb6 K5.out.lt)
            have HB6 := Lib.hid (HB5.out.trans (hb6.mono HB5.out.size))
            obtain ⟨W7, hW7⟩ : ∃ W, W = w6.setCell ⟨w2.heap.size, 2, none⟩ (.slice KA kids.length kc) := ⟨_, rfl⟩
            have hg7 : w6.grownBy W7 (some w2.heap.size) := by rw [hW7]; exact only_setCell (World.grownBy.refl _ _) (.inl rfl) _
            have zz := HZ5.out
            have zz3 := hb6.size
            have k7 : Blk W7 w2.heap.size 83 #[.int .i64 4, .int .i32 n, .slice KA kids.length kc] := by rw [hW7]; exact K6.out.put 2 _
            have HB7 : Hid (Below w.heap.size w W7) := Lib.hid (by rw [hW7]; exact HB6.out.setCell (p := ⟨w2.heap.size, 2, none⟩) (Nat.le_trans zz.2.2 zz.1) _)
            have P7 : Hid (PartsT W7 w.heap.size (.slice D done.length dc) done S f bs) := Lib.hid (P5.out.kept (by have := hg7.size; omega) (fun g hg => (hg7.block g (by have := (P5.out.bound g hg).2; omega) (fun e => by injection e with e; have := HSB.out g hg; omega)).trans (hb6.block g (P5.out.bound g hg).2)))
            have hk7 : OwnT W7 w.heap.size (.slice KA kids.length kc) kids S2 := (ho6.kept hg7.size (fun g hg => hg7.block g (ho6.bound g hg).2 (fun e => by injection e with e; have := (ho6.bound g hg).1; omega))).mono (by omega)
            have HDIS : Hid (∀ g, S g → ¬ S2 g) := Lib.hid (fun g hg h2 => by have := HSB.out g hg; have := (ho6.bound g h2).1; omega)
            have e0 : W7.cell? ⟨w2.heap.size, 0, none⟩ = some (.int .i64 4) := k7.cell 0
            have e1 : W7.cell? ⟨w2.heap.size, 1, none⟩ = some (.int .i32 n) := k7.cell 1
            have e2 : W7.cell? ⟨w2.heap.size, 2, none⟩ = some (.slice KA kids.length kc) := k7.cell 2
            have g2 : w6.cell? ⟨w2.heap.size, 2, none⟩ = some (.slice none 0 0) := K6.out.cell 2
            have gf : w6.frozen? ⟨w2.heap.size, 2, none⟩ = false := K6.out.frozen 2
            have lz7 : w2.heap.size < W7.heap.size := k7.lt
            have HW7 := Lib.hid hW7
            have HB8 := Lib.hid (HB7.out.alloc HB7.out.size (.cells #[.int .i64 4, .int .i32 n, .slice KA kids.length kc] 83))
            have P8 := Lib.hid (P7.out.alloc (.cells #[.int .i64 4, .int .i32 n, .slice KA kids.length kc] 83))
            have HK8 := Lib.hid (hk7.stay (below_alloc1 W7 (.cells #[.int .i64 4, .int .i32 n, .slice KA kids.length kc] 83)))
            have SRC := Lib.hid (src_three W7 (.int .i64 4) (.int .i32 n) (.slice KA kids.length kc))
            clear ho6 hb6 K5 K6 HB5 HB6 HB7 P5 P7 hk7 hg7 hW7 k7 zz zz3 HC HDR HSB HZ5 HZ2
            go_upto_region 12 with (fail)
            rw [← HW7.out]
            clear g2 gf HW7
            go_wp2_with (at_builtin; refine wpList_append_src rfl _ _ 26 rfl w.heap.size 83 i0 (.agg #[.int .i64 0, .int .i32 0, .slice none 0 0]) 3 40 Try.underlying26 hi0 hz0 hz1 hz2 rfl (by decide) _ done.length (trv f 0 done) rfl (P8.out.row) _ 1 [.int .i64 4, .int .i32 n, .slice KA kids.length kc] rfl SRC.out (by simp [Value.oneCell']) (by unfold maxLen; omega) (by omega) (by have := HB8.out.size; omega) ?_; intro v9 w9 ho9 ha9; refine unstop ?_)
            refine Stop.go ?_
            have HB9 : Hid (Below w.heap.size w w9) := Lib.hid (HB8.out.grown ha9.out.grown (by have := HB8.out.size; omega) (fun k hk => (World.ownsRow.lt P8.out.row k hk).1))
            have HO9 := Lib.hid (P8.out.push HK8.out HDIS.out ho9 ha9.out)
            clear ho9 ha9 SRC
            go_wp2_with fail
            go_roundw
            case rel => exact ⟨p + 1 + (Q + 1), v9, _, rest, _, by go_num, rfl, by omega, by rw [List.length_append, List.length_singleton]; exact HKD.out, HT2, HGR2, HO9, HB9⟩
            case measure => simp [intOf]; omega
          · have HLM := Lib.hid (fun W => limb_for n true hkx hrx.1 hrx.2 W)
            have HIN := Lib.hid (fun W => inside_loop 6 n W)
            clear hrx hkx
            go_wp2_with fail
            refine (bare_any 6 n _).mono ?_
            rintro e w2 ⟨rfl, hb2⟩
            have B2 := Lib.hid (hb2.alloc hb2.size (.cells #[.int .i64 6, .int .i32 n, .slice none 0 0] 83))
            have K2 := Lib.hid (Blk.new w2 83 #[.int .i64 6, .int .i32 n, .slice none 0 0])
            have HZ2 := Lib.hid hb2.size
            clear hb2
            go_wp2_with fail
            refine (HLM.out _).mono ?_
            rintro e w3 ⟨rfl, hb3⟩
            have B3 := Lib.hid (B2.out.trans (hb3.mono B2.out.size))
            have K3 := Lib.hid (K2.out.below hb3 K2.out.lt)
            clear hb3 B2 K2 p0 p1 HLM
            go_wp2_with fail
            refine (HIN.out _).mono ?_
            rintro e w4 ⟨rfl, hb4⟩
            have B4 := Lib.hid (B3.out.trans (hb4.mono B3.out.size))
            have K4 := Lib.hid (K3.out.below hb4 K3.out.lt)
            obtain ⟨W5, hW5⟩ : ∃ W, W = w4.alloc (.cells #[.int .i64 7, .int .i32 0] 75) := ⟨_, rfl⟩
            have hb5 : Below wr.heap.size wr W5 := by rw [hW5]; exact B4.out.alloc B4.out.size _
            have K5 := Lib.hid (show Blk W5 w2.heap.size 83 #[.int .i64 6, .int .i32 n, .slice none 0 0] by rw [hW5]; exact K4.out.alloc _)
            have HB5 := Lib.hid (HB.out.trans (hb5.mono HB.out.size))
            have P5 := Lib.hid (HP.out.kept hb5.size (fun g hg => hb5.block g (HP.out.bound g hg).2))
            have HW5 := Lib.hid hW5
            have HZ5 : Hid (wr.heap.size ≤ w2.heap.size ∧ w2.heap.size < W5.heap.size ∧ w.heap.size ≤ wr.heap.size) := Lib.hid ⟨HZ2.out, K5.out.lt, HB.out.size⟩
            clear hb4 B3 K3 B4 K4 hW5 hb5 HB HP HIN
            go_upto_region 9 with (fail)
            rw [← HW5.out]
            clear HW5
            go_wp2_with fail
            refine (HC.out _ (cap - (p + 1)) W5 (by omega) (HDR.out W5 HB5.out)).mono ?_
            rintro e w6 ⟨kv, S2, rfl, ho6, hb6⟩
            obtain ⟨KA, kc, rfl⟩ := ho6.rd.form
            have K6 := Lib.hid (K5.out.below hb6 K5.out.lt)
            have HB6 := Lib.hid (HB5.out.trans (hb6.mono HB5.out.size))
            obtain ⟨W7, hW7⟩ : ∃ W, W = w6.setCell ⟨w2.heap.size, 2, none⟩ (.slice KA kids.length kc) := ⟨_, rfl⟩
            have hg7 : w6.grownBy W7 (some w2.heap.size) := by rw [hW7]; exact only_setCell (World.grownBy.refl _ _) (.inl rfl) _
            have zz := HZ5.out
            have zz3 := hb6.size
            have k7 : Blk W7 w2.heap.size 83 #[.int .i64 6, .int .i32 n, .slice KA kids.length kc] := by rw [hW7]; exact K6.out.put 2 _
            have HB7 : Hid (Below w.heap.size w W7) := Lib.hid (by rw [hW7]; exact HB6.out.setCell (p := ⟨w2.heap.size, 2, none⟩) (Nat.le_trans zz.2.2 zz.1) _)
            have P7 : Hid (PartsT W7 w.heap.size (.slice D done.length dc) done S f bs) := Lib.hid (P5.out.kept (by have := hg7.size; omega) (fun g hg => (hg7.block g (by have := (P5.out.bound g hg).2; omega) (fun e => by injection e with e; have := HSB.out g hg; omega)).trans (hb6.block g (P5.out.bound g hg).2)))
            have hk7 : OwnT W7 w.heap.size (.slice KA kids.length kc) kids S2 := (ho6.kept hg7.size (fun g hg => hg7.block g (ho6.bound g hg).2 (fun e => by injection e with e; have := (ho6.bound g hg).1; omega))).mono (by omega)
            have HDIS : Hid (∀ g, S g → ¬ S2 g) := Lib.hid (fun g hg h2 => by have := HSB.out g hg; have := (ho6.bound g h2).1; omega)
            have e0 : W7.cell? ⟨w2.heap.size, 0, none⟩ = some (.int .i64 6) := k7.cell 0
            have e1 : W7.cell? ⟨w2.heap.size, 1, none⟩ = some (.int .i32 n) := k7.cell 1
            have e2 : W7.cell? ⟨w2.heap.size, 2, none⟩ = some (.slice KA kids.length kc) := k7.cell 2
            have g2 : w6.cell? ⟨w2.heap.size, 2, none⟩ = some (.slice none 0 0) := K6.out.cell 2
            have gf : w6.frozen? ⟨w2.heap.size, 2, none⟩ = false := K6.out.frozen 2
            have lz7 : w2.heap.size < W7.heap.size := k7.lt
            have HW7 := Lib.hid hW7
            have HB8 := Lib.hid (HB7.out.alloc HB7.out.size (.cells #[.int .i64 6, .int .i32 n, .slice KA kids.length kc] 83))
            have P8 := Lib.hid (P7.out.alloc (.cells #[.int .i64 6, .int .i32 n, .slice KA kids.length kc] 83))
            have HK8 := Lib.hid (hk7.stay (below_alloc1 W7 (.cells #[.int .i64 6, .int .i32 n, .slice KA kids.length kc] 83)))
            have SRC := Lib.hid (src_three W7 (.int .i64 6) (.int .i32 n) (.slice KA kids.length kc))
            clear ho6 hb6 K5 K6 HB5 HB6 HB7 P5 P7 hk7 hg7 hW7 k7 zz zz3 HC HDR HSB HZ5 HZ2
            go_upto_region 12 with (fail)
            rw [← HW7.out]
            clear g2 gf HW7
            go_wp2_with (at_builtin; refine wpList_append_src rfl _ _ 26 rfl w.heap.size 83 i0 (.agg #[.int .i64 0, .int .i32 0, .slice none 0 0]) 3 40 Try.underlying26 hi0 hz0 hz1 hz2 rfl (by decide) _ done.length (trv f 0 done) rfl (P8.out.row) _ 1 [.int .i64 6, .int .i32 n, .slice KA kids.length kc] rfl SRC.out (by simp [Value.oneCell']) (by unfold maxLen; omega) (by omega) (by have := HB8.out.size; omega) ?_; intro v9 w9 ho9 ha9; refine unstop ?_)
            refine Stop.go ?_
            have HB9 : Hid (Below w.heap.size w w9) := Lib.hid (HB8.out.grown ha9.out.grown (by have := HB8.out.size; omega) (fun k hk => (World.ownsRow.lt P8.out.row k hk).1))
            have HO9 := Lib.hid (P8.out.push HK8.out HDIS.out ho9 ha9.out)
            clear ho9 ha9 SRC
            go_wp2_with fail
            go_roundw
            case rel => exact ⟨p + 1 + (Q + 1), v9, _, rest, _, by go_num, rfl, by omega, by rw [List.length_append, List.length_singleton]; exact HKD.out, HT2, HGR2, HO9, HB9⟩
            case measure => simp [intOf]; omega
set_option maxHeartbeats 2000000 in
theorem impl_treeof (xs : List (Int × Int)) (hrg : RngO xs) (ts : List Tr) (h : TreesOf xs ts) (A : Option Addr) (cap : Nat) (w : World) (hcap : xs.length ≤ cap) (hr : RdS w (.slice A xs.length cap) xs) : Calls Try.prog 11 #[.slice A xs.length cap] w (NewT ts w) := by
  have HS := Lib.hid (impl_shape xs hrg _ w hr)
  have HR := Lib.hid (fun W (h : Below w.heap.size w W) => hr.below h)
  rcases h with ⟨hs, hg⟩ | ⟨hs, rfl⟩
  · have HC := Lib.hid (fun W hr => impl_grownL (xs.length + 1) xs (shape_len hs).1 hrg (shape_len hs).2 ts [] hg (by omega) A cap W hcap hr)
    rw [hs] at HS
    obtain ⟨N, hN⟩ : ∃ N, xs.length = N := ⟨_, rfl⟩
    rw [hN] at HS HR HC ⊢
    clear hr hrg hg hs hN hcap
    go_enter Try.func11, Try.ntmps11
    go_wp2_with fail
    refine HS.out.mono ?_
    rintro e w2 ⟨rfl, hb2⟩
    have HB2 := Lib.hid hb2
    clear hb2 HS
    go_wp2_with fail
    refine (HC.out w2 (HR.out _ HB2.out)).mono ?_
    rintro e w3 ⟨u, S, rfl, ho3, hb3⟩
    have HO := Lib.hid (ho3.mono HB2.out.size)
    have HB3 := Lib.hid (HB2.out.trans (hb3.mono HB2.out.size))
    clear ho3 hb3 HC
    go_wp2_with fail
    go_ret
    exact ⟨u, S, rfl, HO.out, HB3.out⟩
  · rw [hs] at HS
    obtain ⟨N, hN⟩ : ∃ N, xs.length = N := ⟨_, rfl⟩
    rw [hN] at HS ⊢
    clear hr hrg hs HR hN hcap
    go_enter Try.func11, Try.ntmps11
    go_wp2_with fail
    refine HS.out.mono ?_
    rintro e w2 ⟨rfl, hb2⟩
    have HB2 := Lib.hid hb2
    clear hb2 HS
    go_wp2_with fail
    go_ret
    exact ⟨_, _, rfl, OwnT.nil _ _, HB2.out⟩
end Go.Proofs.Ytlkkobffgbjkpaa
