/-
  laws.FnExactStart answers true at every code, place and state.
-/
import Derived.Test.YtmnfdbgiemappaaST9
import Derived.Test.YtmnfdbgiemappaaST14
import Derived.Test.YtmnfdbgiemappaaST16
import Derived.Test.YtmnfdbgiemappaaST17
import Derived.Test.YtmnfdbgiemappaaST4
import Derived.Test.YtmnfdbgiemappaaST2
import Derived.Deep.Cut
import Derived.Deep.CutBlock
import Derived.Deep.RegionHeld3
namespace Go.Proofs.Ytmnfdbgiemappaa
open Go.RowKit Go

attribute [local go_sem ↓] Go.wp_at_zero Go.wp_at_succ
theorem start8_tot {code : List (Int × Int)} {p : Int} {S : S8} (hs : totSt S ≤ 2500000) : totSt (start8 code p S).1 ≤ 4000000 := by
  unfold start8
  split
  · exact putR8_tot hs
  · show totSt zero8 ≤ _
    unfold totSt zero8
    simp
/-- A new machine, its parts by name. -/
def NewMT (w : World) (T : S8) (q : Int) (dn : Bool) (e : Ending) (w' : World) : Prop :=
  ∃ d r m c v o i, e = .returned (.agg #[d, r, .int .i32 T.a, m, c, v, o, i, .int .i64 T.fault, .int .i64 T.fuel, .int .i64 q, .bool dn]) ∧ OwnSt w' w.heap.size w'.heap.size d r m c v o i T ∧ Below w.heap.size w w'
/-- A machine that was made, in its box; from W0 on nothing older has changed. -/
def MadeM (W0 : World) (T : S8) (q : Int) (dn : Bool) (s : Value) (W : World) : Prop :=
  ∃ b d r m c v o i lo hi, s = .pointer (some ⟨b, 0, none⟩) ∧ Hid (Below W0.heap.size W0 W ∧ W0.heap.size ≤ b ∧ Blk W b 36 #[d, r, .int .i32 T.a, m, c, v, o, i, .int .i64 T.fault, .int .i64 T.fuel, .int .i64 q, .bool dn] ∧ W0.heap.size ≤ lo ∧ hi ≤ W.heap.size ∧ OwnSt W lo hi d r m c v o i T)
theorem MadeM.after {W0 W : World} {T : S8} {q : Int} {dn : Bool} {lo : Nat} {d r m c v o i : Value} (g : Below W0.heap.size W0 W) (hlo : W0.heap.size ≤ lo) (ho : OwnSt W lo W.heap.size d r m c v o i T) : MadeM W0 T q dn (.pointer (some ⟨W.heap.size, 0, none⟩)) (W.alloc (.cells #[d, r, .int .i32 T.a, m, c, v, o, i, .int .i64 T.fault, .int .i64 T.fuel, .int .i64 q, .bool dn] 36)) :=
  ⟨W.heap.size, d, r, m, c, v, o, i, lo, W.heap.size, rfl, Lib.hid ⟨g.alloc g.size _, g.size, Blk.new _ _ _, hlo, by simp, ho.alloc _⟩⟩
theorem MadeM.ahead {W0 W : World} {T : S8} {q : Int} {dn : Bool} {lo b : Nat} {y0 y1 y2 y3 y4 y5 y6 y7 y8 y9 y10 y11 d r m c v o i : Value} (g : Below W0.heap.size W0 W) (hlo : W0.heap.size ≤ lo) (ho : OwnSt W lo W.heap.size d r m c v o i T) (kb : Blk W b 36 #[y0, y1, y2, y3, y4, y5, y6, y7, y8, y9, y10, y11]) (hb : W0.heap.size ≤ b) (hl : b < lo) : MadeM W0 T q dn (.pointer (some ⟨b, 0, none⟩)) (putM W b d r (.int .i32 T.a) m c v o i (.int .i64 T.fault) (.int .i64 T.fuel) (.int .i64 q) (.bool dn)) := by
  have h0 := putM_only W b d r (.int .i32 T.a) m c v o i (.int .i64 T.fault) (.int .i64 T.fuel) (.int .i64 q) (.bool dn)
  refine ⟨b, d, r, m, c, v, o, i, lo, W.heap.size, rfl, Lib.hid ⟨g.grown h0 g.size (fun k hk => by injection hk with hk; omega), hb, putM_blk kb _ _ _ _ _ _ _ _ _ _ _ _, hlo, ?_, ho.only h0 (.inl hl)⟩⟩
  rw [putM_size]
  exact Nat.le_refl _
theorem keepM {W : World} {g b B : Nat} {t t2 : TypeId} {cs ys : Array Value} (hk : Blk W g t cs) (_kb : Blk W b t2 ys) (hg : g < B) (hb : B ≤ b) (x0 x1 x2 x3 x4 x5 x6 x7 x8 x9 x10 x11 : Value) : Blk (putM W b x0 x1 x2 x3 x4 x5 x6 x7 x8 x9 x10 x11) g t cs :=
  hk.grown (putM_only W b x0 x1 x2 x3 x4 x5 x6 x7 x8 x9 x10 x11) (fun e => by injection e with e; omega)
theorem belowD {a b : World} (h : Below a.drew.heap.size a.drew b) : Below a.heap.size a b := (Below.refl _ a).drew.trans h
theorem belowA {a b : World} {o : Obj} (h : Below (a.alloc o).drew.heap.size (a.alloc o).drew b) : Below a.heap.size a b := (below_alloc a o).drew.trans (h.mono (by show a.heap.size ≤ (a.alloc o).heap.size; simp))
theorem belowB {a b : World} {o : Obj} {B : Nat} (h : Below (a.alloc o).heap.size (a.alloc o) b) (hB : B ≤ a.heap.size) : Below B a b := ((below_alloc a o).trans (h.mono (by simp))).mono hB
set_option maxRecDepth 100000 in
set_option maxHeartbeats 16000000 in
theorem law_FnExactStart (p : Int) (w : World) (C : Option Addr) (n c : Nat) (hin : InsIn w C n c) (xa xf xu : Int) (A0 : Option Addr) (n0 c0 : Nat) (A1 : Option Addr) (n1 c1 : Nat) (A2 : Option Addr) (n2 c2 : Nat) (A3 : Option Addr) (n3 c3 : Nat) (A4 : Option Addr) (n4 c4 : Nat) (A5 : Option Addr) (n5 c5 : Nat) (A6 : Option Addr) (n6 c6 : Nat) (h0 : n0 ≤ 9223372036854775807 ∧ n1 ≤ 9223372036854775807 ∧ n2 ≤ 9223372036854775807 ∧ n3 ≤ 9223372036854775807 ∧ n4 ≤ 9223372036854775807 ∧ n5 ≤ 9223372036854775807 ∧ n6 ≤ 9223372036854775807) (hx : StIn w (.slice A0 n0 c0) (.slice A1 n1 c1) (.slice A2 n2 c2) (.slice A3 n3 c3) (.slice A4 n4 c4) (.slice A5 n5 c5) (.slice A6 n6 c6) xa xf xu n0 n1 n2 n3 n4 n5 n6) :
    Calls Try.prog 3 #[.slice C n c, .int .i64 p, .agg #[.slice A0 n0 c0, .slice A1 n1 c1, .int .i32 xa, .slice A2 n2 c2, .slice A3 n3 c3, .slice A4 n4 c4, .slice A5 n5 c5, .slice A6 n6 c6, .int .i64 xf, .int .i64 xu]] w fun e w' => e = .returned (.bool true) ∧ Below w.heap.size w w' := by
  by_cases hl : n ≤ 1048576
  · obtain ⟨code, rfl, hrx, hrc⟩ := hin.2 (by omega)
    have hrg : RngC code := hrx
    have HRc := Lib.hid (fun W (hb : Below w.heap.size w W) => hrc.below hb)
    have HL62 : Hid (code.length ≤ 4611686018427387904) := Lib.hid (by omega)
    have hz : ¬ (1048576 - (code.length : Int)) < 0 := by omega
    by_cases hs : code.length + (n0 + n1 + n2 + n3 + n4 + n5 + n6) ≤ 1048576
    · obtain ⟨S, rfl, rfl, rfl, rfl, rfl, rfl, rfl, rfl, rfl, rfl, -, hra⟩ := hx (by omega)
      have HRa := Lib.hid (fun W (hb : Below w.heap.size w W) => hra.below hb)
      have hts : totSt S + 2 * code.length ≤ 2500000 := by unfold totSt; omega
      have HS0 := fun (C : Option Addr) (cc : Nat) d r m c v o i W (hc : RdIc W (.slice C code.length cc) code) (h : RdSt W d r m c v o i S) => spec_start code hrg C cc p d r m c v o i S (by omega) W hc h
      have HI0 := fun (C : Option Addr) (cc : Nat) d r m c v o i W (hc : RdIc W (.slice C code.length cc) code) (h : RdSt W d r m c v o i S) => impl_start code hrg C cc p d r m c v o i S (by omega) W hc h
      obtain ⟨M, hM⟩ : ∃ M, start8 code p S = M := ⟨_, rfl⟩
      have htt : totSt M.1 ≤ 4000000 := by rw [← hM]; exact start8_tot (by omega)
      rw [hM] at HS0 HI0
      obtain ⟨T, q, dn⟩ := M
      have HTT : Hid (totSt T ≤ 4000000) := Lib.hid htt
      have htt2 : totSt T ≤ 4000000 := HTT.out
      have HS : Hid (∀ (C : Option Addr) (cc : Nat) d r m c v o i W, RdIc W (.slice C code.length cc) code → RdSt W d r m c v o i S → Calls Try.prog 6 #[.slice C code.length cc, .int .i64 p, .agg #[d, r, .int .i32 S.a, m, c, v, o, i, .int .i64 S.fault, .int .i64 S.fuel]] W (NewMT W T q dn)) := Lib.hid HS0
      have HI : Hid (∀ (C : Option Addr) (cc : Nat) d r m c v o i W, RdIc W (.slice C code.length cc) code → RdSt W d r m c v o i S → Calls Try.prog 9 #[.slice C code.length cc, .int .i64 p, .agg #[d, r, .int .i32 S.a, m, c, v, o, i, .int .i64 S.fault, .int .i64 S.fuel]] W (NewMT W T q dn)) := Lib.hid HI0
      have HMK : Hid (∀ lo hi d r m c v o i W, OwnSt W lo hi d r m c v o i S → hi ≤ W.heap.size → Calls Try.prog 14 #[.agg #[d, r, .int .i32 S.a, m, c, v, o, i, .int .i64 S.fault, .int .i64 S.fuel], .int .i64 (1 + 2 * (code.length : Int))] W fun e w' => e = .returned (.int .i64 (1 + 2 * (code.length : Int) + (totSt S : Int))) ∧ OwnSt w' lo hi d r m c v o i (markSt S (1 + 2 * code.length)) ∧ Kept lo hi W w') := Lib.hid (fun lo hi d r m c v o i W ho hw => by
        have h := markst_any lo hi d r m c v o i S (1 + 2 * code.length) (by omega) (by omega) W ho hw
        rw [show ((1 + 2 * code.length : Nat) : Int) = 1 + 2 * (code.length : Int) by push_cast; rfl] at h
        exact h)
      have HL48 : Hid (code.length ≤ 4194304) := Lib.hid (by omega)
      have HT4 : Hid (totSt S ≤ 4000000) := Lib.hid (by omega)
      clear HS0 HI0 hM hrx hrc hra hx h0 hin htt
      go_enter Try.func3, Try.ntmps3
      go_wp2_with fail
      refine (szI_fit _ code (by omega) _ (HRc.out _ (below_alloc _ _))).mono ?_
      rintro e W11 ⟨rfl, hb11⟩
      obtain ⟨kb11, hB11, hz11⟩ := boxes1 hb11
      have sz11 : w.heap.size ≤ W11.heap.size := hB11.size
      have BE_1 : Hid (Below w.heap.size w W11) := Lib.hid (hB11)
      have BX_2 : Hid (Blk W11 w.heap.size 29 #[.slice A0 S.data.length c0, .slice A1 S.ret.length c1, .int .i32 S.a, .slice A2 S.mem.length c2, .slice A3 S.cells.length c3, .slice A4 S.vars.length c4, .slice A5 S.out.length c5, .slice A6 S.inp.length c6, .int .i64 S.fault, .int .i64 S.fuel]) := Lib.hid kb11
      clear hb11 kb11 hB11
      obtain ⟨c_3, c_4, c_5, c_6, c_7, c_8, c_9, c_10, c_11, c_12⟩ := st_cells BX_2.out
      have l_13 : w.heap.size < W11.heap.size := BX_2.out.lt
      go_wp2_with fail
      refine (szst_fit A0 S.data.length c0 A1 S.ret.length c1 A2 S.mem.length c2 A3 S.cells.length c3 A4 S.vars.length c4 A5 S.out.length c5 A6 S.inp.length c6 S.a S.fault S.fuel (1048576 - (code.length : Int)) (by omega) (by omega) _).mono ?_
      rintro e W12 ⟨rfl, hb12⟩
      have sz12 : W11.heap.size ≤ W12.heap.size := hb12.size
      have BE_14 : Hid (Below w.heap.size w W12) := Lib.hid (BE_1.out.trans (hb12.mono BE_1.out.size))
      have BX_15 := Lib.hid (BX_2.out.below hb12 BX_2.out.lt)
      clear c_3 c_4 c_5 c_6 c_7 c_8 c_9 c_10 c_11 c_12 l_13 BE_1 BX_2 hb12
      go_upto_region 8 with (fail)
      go_cut [8] from 26 (fun s8 wx => MadeM W12 T q dn s8 wx)
      case first =>
        have HD := Lib.hid (BE_14.out.drew)
        have HDA := Lib.hid ((BE_14.out.alloc BE_14.out.size (.cells #[.slice none 0 0, .slice none 0 0, .int .i32 0, .slice none 0 0, .slice none 0 0, .slice none 0 0, .slice none 0 0, .slice none 0 0, .int .i64 0, .int .i64 0, .int .i64 0, .bool false] 36)).drew)
        have hS0 := st_cells BX_15.out.drew
        have hS0a := st_cells (Blk.drew (Blk.alloc BX_15.out (.cells #[.slice none 0 0, .slice none 0 0, .int .i32 0, .slice none 0 0, .slice none 0 0, .slice none 0 0, .slice none 0 0, .slice none 0 0, .int .i64 0, .int .i64 0, .int .i64 0, .bool false] 36)))
        go_region_held3 (fun w' => w'.cell? ⟨w.heap.size, 0, none⟩ = some (.slice A0 S.data.length c0) ∧ w'.cell? ⟨w.heap.size, 1, none⟩ = some (.slice A1 S.ret.length c1) ∧ w'.cell? ⟨w.heap.size, 2, none⟩ = some (.int .i32 S.a) ∧ w'.cell? ⟨w.heap.size, 3, none⟩ = some (.slice A2 S.mem.length c2) ∧ w'.cell? ⟨w.heap.size, 4, none⟩ = some (.slice A3 S.cells.length c3) ∧ w'.cell? ⟨w.heap.size, 5, none⟩ = some (.slice A4 S.vars.length c4) ∧ w'.cell? ⟨w.heap.size, 6, none⟩ = some (.slice A5 S.out.length c5) ∧ w'.cell? ⟨w.heap.size, 7, none⟩ = some (.slice A6 S.inp.length c6) ∧ w'.cell? ⟨w.heap.size, 8, none⟩ = some (.int .i64 S.fault) ∧ w'.cell? ⟨w.heap.size, 9, none⟩ = some (.int .i64 S.fuel)) (first | (with_reducible exact hS0) | (with_reducible exact hS0a) | (with_reducible exact hS1) | (with_reducible exact hS1a) | (with_reducible exact hS2) | (with_reducible exact hS2a) | (with_reducible exact hS3) | (with_reducible exact hS3a) | (with_reducible exact hS3b) | (with_reducible exact hS3c)) (first | (go_at_call 7; refine Calls.mono (toIc_any _ code HL48.out _ (HRc.out _ ?_)) ?_; (first | exact HD.out | exact HDA.out); rintro e V1 ⟨tv, rfl, hot, h1⟩; obtain ⟨TA, tc, rfl⟩ := own_formG hot; have g1 : Below W12.heap.size W12 V1 := (by first | exact belowD h1 | exact belowA h1); have rc1 := RdIc.of_own hot HL62.out; (first | (have kb1 := Blk.below (Blk.drew (Blk.new W12 36 #[.slice none 0 0, .slice none 0 0, .int .i32 0, .slice none 0 0, .slice none 0 0, .slice none 0 0, .slice none 0 0, .slice none 0 0, .int .i64 0, .int .i64 0, .int .i64 0, .bool false])) h1 (by simp); have hbb := Nat.le_refl W12.heap.size) | skip); have hS1 := st_cells (Blk.below BX_15.out g1 BX_15.out.lt); have hS1a := st_cells (Blk.alloc (Blk.below BX_15.out g1 BX_15.out.lt) (.cells #[.slice none 0 0, .slice none 0 0, .int .i32 0, .slice none 0 0, .slice none 0 0, .slice none 0 0, .slice none 0 0, .slice none 0 0, .int .i64 0, .int .i64 0, .int .i64 0, .bool false] 36))) | (go_at_call 8; refine Calls.mono (tost_any (.slice A0 S.data.length c0) (.slice A1 S.ret.length c1) (.slice A2 S.mem.length c2) (.slice A3 S.cells.length c3) (.slice A4 S.vars.length c4) (.slice A5 S.out.length c5) (.slice A6 S.inp.length c6) S HT4.out _ (HRa.out _ ?_)) ?_; (first | exact BE_14.out.trans (Below.mono g1 BE_14.out.size) | exact (BE_14.out.trans (Below.mono g1 BE_14.out.size)).alloc (BE_14.out.trans (Below.mono g1 BE_14.out.size)).size _); rintro e V2 ⟨t0_, t1_, t2_, t3_, t4_, t5_, t6_, rfl, hos, h2⟩; have g2 : Below W12.heap.size W12 V2 := (by first | exact g1.trans (Below.mono h2 g1.size) | exact g1.trans (belowB h2 g1.size)); have rc2 : RdIc V2 (.slice TA code.length tc) code := (by first | exact RdIc.below rc1 h2 | exact RdIc.below (RdIc.below rc1 (below_alloc _ _)) h2); (first | have kb2 := Blk.below kb1 h2 kb1.lt | (have kb2 := Blk.below (Blk.new V1 36 #[.slice none 0 0, .slice none 0 0, .int .i32 0, .slice none 0 0, .slice none 0 0, .slice none 0 0, .slice none 0 0, .slice none 0 0, .int .i64 0, .int .i64 0, .int .i64 0, .bool false]) h2 (by simp); have hbb := g1.size) | skip); have hS2 := st_cells (Blk.below BX_15.out g2 BX_15.out.lt); have hS2a := st_cells (Blk.alloc (Blk.below BX_15.out g2 BX_15.out.lt) (.cells #[.slice none 0 0, .slice none 0 0, .int .i32 0, .slice none 0 0, .slice none 0 0, .slice none 0 0, .slice none 0 0, .slice none 0 0, .int .i64 0, .int .i64 0, .int .i64 0, .bool false] 36))) | (go_at_call 6; refine Calls.mono (HS.out TA tc t0_ t1_ t2_ t3_ t4_ t5_ t6_ _ ?_ ?_) ?_; (first | exact rc2 | exact RdIc.below rc2 (below_alloc _ _)); (first | exact hos.rd HT4.out | exact (hos.rd HT4.out).below (below_alloc _ _)); rintro e W13 ⟨v13_0, v13_1, v13_2, v13_3, v13_4, v13_5, v13_6, rfl, ho, h3⟩; obtain ⟨⟨A13_0, k13_0, rfl⟩, ⟨A13_1, k13_1, rfl⟩, ⟨A13_2, k13_2, rfl⟩, ⟨A13_3, k13_3, rfl⟩, ⟨A13_4, k13_4, rfl⟩, ⟨A13_5, k13_5, rfl⟩, ⟨A13_6, k13_6, rfl⟩⟩ := ho.form HTT.out; have g3 : Below W12.heap.size W12 W13 := (by first | exact g2.trans (Below.mono h3 g2.size) | exact g2.trans (belowB h3 g2.size)); (first | (have kb3 := Blk.below kb2 h3 kb2.lt; have hbl3 := kb2.lt; have hlo3 := g2.size) | (have kb3 := Blk.below (Blk.new V2 36 #[.slice none 0 0, .slice none 0 0, .int .i32 0, .slice none 0 0, .slice none 0 0, .slice none 0 0, .slice none 0 0, .slice none 0 0, .int .i64 0, .int .i64 0, .int .i64 0, .bool false]) h3 (by simp); have hbl3 : V2.heap.size < (V2.alloc (.cells #[.slice none 0 0, .slice none 0 0, .int .i32 0, .slice none 0 0, .slice none 0 0, .slice none 0 0, .slice none 0 0, .slice none 0 0, .int .i64 0, .int .i64 0, .int .i64 0, .bool false] 36)).heap.size := (by simp); have hbb := g2.size; have hlo3 := Nat.le_trans g2.size (Nat.le_of_lt hbl3)) | skip); have hS3 := st_cells (Blk.below BX_15.out g3 BX_15.out.lt); have hS3a := st_cells (Blk.alloc (Blk.below BX_15.out g3 BX_15.out.lt) (.cells #[.slice none 0 0, .slice none 0 0, .int .i32 0, .slice none 0 0, .slice none 0 0, .slice none 0 0, .slice none 0 0, .slice none 0 0, .int .i64 0, .int .i64 0, .int .i64 0, .bool false] 36)); have hS3b := st_cells (Blk.alloc (Blk.below BX_15.out g3 BX_15.out.lt) (.cells #[.slice A13_0 T.data.length k13_0, .slice A13_1 T.ret.length k13_1, .int .i32 T.a, .slice A13_2 T.mem.length k13_2, .slice A13_3 T.cells.length k13_3, .slice A13_4 T.vars.length k13_4, .slice A13_5 T.out.length k13_5, .slice A13_6 T.inp.length k13_6, .int .i64 T.fault, .int .i64 T.fuel, .int .i64 q, .bool dn] 36)); (first | (have hS3c := st_cells (keepM (Blk.below BX_15.out g3 BX_15.out.lt) kb3 BX_15.out.lt (by have e1 := g1.size; have e2 := g2.size; omega) (.slice A13_0 T.data.length k13_0) (.slice A13_1 T.ret.length k13_1) (.int .i32 T.a) (.slice A13_2 T.mem.length k13_2) (.slice A13_3 T.cells.length k13_3) (.slice A13_4 T.vars.length k13_4) (.slice A13_5 T.out.length k13_5) (.slice A13_6 T.inp.length k13_6) (.int .i64 T.fault) (.int .i64 T.fuel) (.int .i64 q) (.bool dn)); unfold putM at hS3c; obtain ⟨z0, z1, z2, z3, z4, z5, z6, z7, z8, z9, z10, z11⟩ := mach_cells kb3; have zf := kb3.frozen; have zl := kb3.lt) | skip)))
        all_goals
          go_wp2_with fail
          go_meet
          case rel => first | (have hk_ := kb3; exact MadeM.ahead g3 hlo3 ho kb3 hbb hbl3) | exact MadeM.after g3 g2.size ho
      case rest =>
        obtain ⟨b13, v13_0, v13_1, v13_2, v13_3, v13_4, v13_5, v13_6, lo13, hi13, rfl, hmm⟩ := hcut
        obtain ⟨hB13, hb13, kb13, a_lo13, a_hi13, ho13⟩ := hmm.out
        obtain ⟨⟨A13_0, k13_0, rfl⟩, ⟨A13_1, k13_1, rfl⟩, ⟨A13_2, k13_2, rfl⟩, ⟨A13_3, k13_3, rfl⟩, ⟨A13_4, k13_4, rfl⟩, ⟨A13_5, k13_5, rfl⟩, ⟨A13_6, k13_6, rfl⟩⟩ := ho13.form HTT.out
        have hbl13 := kb13.lt
        have OW_16 := Lib.hid ho13
        have BX_17 := Lib.hid kb13
        have sz13 : W12.heap.size ≤ wc.heap.size := hB13.size
        have BE_18 : Hid (Below w.heap.size w wc) := Lib.hid (BE_14.out.trans (hB13.mono BE_14.out.size))
        have BX_19 := Lib.hid (BX_15.out.below hB13 BX_15.out.lt)
        clear ho13 kb13 hmm BE_14 BX_15 hB13
        go_wp2_with fail
        refine (toIc_any _ code (by omega) _ (HRc.out _ BE_18.out)).mono ?_
        rintro e W14 ⟨v14, rfl, ho14, hb14⟩
        obtain ⟨A14, c14, rfl⟩ := own_formG ho14
        have sz14 : wc.heap.size ≤ W14.heap.size := hb14.size
        have BE_20 : Hid (Below w.heap.size w W14) := Lib.hid (BE_18.out.trans (hb14.mono BE_18.out.size))
        have OW_21 := Lib.hid (OW_16.out.keep hb14)
        have BX_22 := Lib.hid (BX_19.out.below hb14 BX_19.out.lt)
        have BX_23 := Lib.hid (BX_17.out.below hb14 BX_17.out.lt)
        have hp14 := ho14.mono (show wc.heap.size ≤ _ by exact Nat.le_refl _)
        have LO_25 := Lib.hid (own_lt hp14)
        have HI_26 := Lib.hid (fun k hk => (World.ownsRow.lt hp14 k hk).2)
        have OW_24 := Lib.hid hp14
        clear BE_18 OW_16 BX_19 BX_17 ho14 hp14 hb14
        obtain ⟨c_27, c_28, c_29, c_30, c_31, c_32, c_33, c_34, c_35, c_36⟩ := st_cells BX_22.out
        have l_37 : w.heap.size < W14.heap.size := BX_22.out.lt
        go_wp2_with fail
        refine (tost_any (.slice A0 S.data.length c0) (.slice A1 S.ret.length c1) (.slice A2 S.mem.length c2) (.slice A3 S.cells.length c3) (.slice A4 S.vars.length c4) (.slice A5 S.out.length c5) (.slice A6 S.inp.length c6) S (by omega) _ (HRa.out _ BE_20.out)).mono ?_
        rintro e W15 ⟨v15_0, v15_1, v15_2, v15_3, v15_4, v15_5, v15_6, rfl, ho15, hb15⟩
        obtain ⟨⟨A15_0, k15_0, rfl⟩, ⟨A15_1, k15_1, rfl⟩, ⟨A15_2, k15_2, rfl⟩, ⟨A15_3, k15_3, rfl⟩, ⟨A15_4, k15_4, rfl⟩, ⟨A15_5, k15_5, rfl⟩, ⟨A15_6, k15_6, rfl⟩⟩ := ho15.form (by first | omega | assumption)
        have sz15 : W14.heap.size ≤ W15.heap.size := hb15.size
        have BE_38 : Hid (Below w.heap.size w W15) := Lib.hid (BE_20.out.trans (hb15.mono BE_20.out.size))
        have OW_39 := Lib.hid (OW_21.out.keep hb15)
        have OW_40 := Lib.hid (own_belowG OW_24.out hb15 (Nat.le_refl _))
        have BX_41 := Lib.hid (BX_22.out.below hb15 BX_22.out.lt)
        have BX_42 := Lib.hid (BX_23.out.below hb15 BX_23.out.lt)
        obtain ⟨lo15, e_lo15⟩ : ∃ z, W14.heap.size = z := ⟨_, rfl⟩
        have a_lo15 : W14.heap.size ≤ lo15 := by rw [← e_lo15]; simp
        obtain ⟨hi15, e_hi15⟩ : ∃ z, W15.heap.size = z := ⟨_, rfl⟩
        have a_hi15 : hi15 ≤ W15.heap.size := by rw [e_hi15]; exact Nat.le_refl _
        have OW_43 : Hid (OwnSt W15 lo15 hi15 (.slice A15_0 S.data.length k15_0) (.slice A15_1 S.ret.length k15_1) (.slice A15_2 S.mem.length k15_2) (.slice A15_3 S.cells.length k15_3) (.slice A15_4 S.vars.length k15_4) (.slice A15_5 S.out.length k15_5) (.slice A15_6 S.inp.length k15_6) S) := Lib.hid (by rw [← e_lo15, ← e_hi15]; exact ho15)
        clear c_27 c_28 c_29 c_30 c_31 c_32 c_33 c_34 c_35 c_36 l_37 BE_20 OW_21 OW_24 BX_22 BX_23 ho15 e_lo15 e_hi15 hb15
        go_wp2_with fail
        refine (HI.out _ _ (.slice A15_0 S.data.length k15_0) (.slice A15_1 S.ret.length k15_1) (.slice A15_2 S.mem.length k15_2) (.slice A15_3 S.cells.length k15_3) (.slice A15_4 S.vars.length k15_4) (.slice A15_5 S.out.length k15_5) (.slice A15_6 S.inp.length k15_6) _ ((RdIc.of_own OW_40.out HL62.out).below (below_alloc _ _)) ((OW_43.out.rd (by first | omega | assumption)).below (below_alloc _ _))).mono ?_
        rintro e W16 ⟨v16_0, v16_1, v16_2, v16_3, v16_4, v16_5, v16_6, rfl, ho16, hb16⟩
        obtain ⟨⟨A16_0, k16_0, rfl⟩, ⟨A16_1, k16_1, rfl⟩, ⟨A16_2, k16_2, rfl⟩, ⟨A16_3, k16_3, rfl⟩, ⟨A16_4, k16_4, rfl⟩, ⟨A16_5, k16_5, rfl⟩, ⟨A16_6, k16_6, rfl⟩⟩ := ho16.form (by first | omega | assumption)
        obtain ⟨kb16, hB16, hz16⟩ := boxes1 hb16
        have sz16 : W15.heap.size ≤ W16.heap.size := hB16.size
        have BE_44 : Hid (Below w.heap.size w W16) := Lib.hid (BE_38.out.trans (hB16.mono BE_38.out.size))
        have OW_45 := Lib.hid (OW_39.out.keep hB16)
        have OW_46 := Lib.hid (own_belowG OW_40.out hB16 (Nat.le_refl _))
        have OW_47 := Lib.hid (OW_43.out.keep hB16)
        have BX_48 := Lib.hid (BX_41.out.below hB16 BX_41.out.lt)
        have BX_49 := Lib.hid (BX_42.out.below hB16 BX_42.out.lt)
        have BX_50 : Hid (Blk W16 W15.heap.size 34 #[.slice A15_0 S.data.length k15_0, .slice A15_1 S.ret.length k15_1, .int .i32 S.a, .slice A15_2 S.mem.length k15_2, .slice A15_3 S.cells.length k15_3, .slice A15_4 S.vars.length k15_4, .slice A15_5 S.out.length k15_5, .slice A15_6 S.inp.length k15_6, .int .i64 S.fault, .int .i64 S.fuel]) := Lib.hid kb16
        obtain ⟨lo16, e_lo16⟩ : ∃ z, (W15.alloc (.cells #[.slice A15_0 S.data.length k15_0, .slice A15_1 S.ret.length k15_1, .int .i32 S.a, .slice A15_2 S.mem.length k15_2, .slice A15_3 S.cells.length k15_3, .slice A15_4 S.vars.length k15_4, .slice A15_5 S.out.length k15_5, .slice A15_6 S.inp.length k15_6, .int .i64 S.fault, .int .i64 S.fuel] 34)).heap.size = z := ⟨_, rfl⟩
        have a_lo16 : W15.heap.size + 1 ≤ lo16 := by rw [← e_lo16]; simp
        obtain ⟨hi16, e_hi16⟩ : ∃ z, W16.heap.size = z := ⟨_, rfl⟩
        have a_hi16 : hi16 ≤ W16.heap.size := by rw [e_hi16]; exact Nat.le_refl _
        have OW_51 : Hid (OwnSt W16 lo16 hi16 (.slice A16_0 T.data.length k16_0) (.slice A16_1 T.ret.length k16_1) (.slice A16_2 T.mem.length k16_2) (.slice A16_3 T.cells.length k16_3) (.slice A16_4 T.vars.length k16_4) (.slice A16_5 T.out.length k16_5) (.slice A16_6 T.inp.length k16_6) T) := Lib.hid (by rw [← e_lo16, ← e_hi16]; exact ho16)
        clear hb16 BE_38 OW_39 OW_40 OW_43 BX_41 BX_42 kb16 ho16 e_lo16 e_hi16 hB16
        obtain ⟨c_52, c_53, c_54, c_55, c_56, c_57, c_58, c_59, c_60, c_61, c_62, c_63⟩ := mach_cells BX_49.out
        have l_64 : b13 < W16.heap.size := BX_49.out.lt
        go_wp2_with fail
        refine (eqmach_same (.slice A16_0 T.data.length k16_0) (.slice A16_1 T.ret.length k16_1) (.slice A16_2 T.mem.length k16_2) (.slice A16_3 T.cells.length k16_3) (.slice A16_4 T.vars.length k16_4) (.slice A16_5 T.out.length k16_5) (.slice A16_6 T.inp.length k16_6) (.slice A13_0 T.data.length k13_0) (.slice A13_1 T.ret.length k13_1) (.slice A13_2 T.mem.length k13_2) (.slice A13_3 T.cells.length k13_3) (.slice A13_4 T.vars.length k13_4) (.slice A13_5 T.out.length k13_5) (.slice A13_6 T.inp.length k13_6) T q dn _ ((OW_51.out.rd (by first | omega | assumption)).below (below_alloc _ _)) ((OW_45.out.rd (by first | omega | assumption)).below (below_alloc _ _))).mono ?_
        rintro e W17 ⟨rfl, hb17⟩
        obtain ⟨kb17, hB17, hz17⟩ := boxes1 hb17
        have sz17 : W16.heap.size ≤ W17.heap.size := hB17.size
        have BE_65 : Hid (Below w.heap.size w W17) := Lib.hid (BE_44.out.trans (hB17.mono BE_44.out.size))
        have OW_66 := Lib.hid (OW_45.out.keep hB17)
        have OW_67 := Lib.hid (own_belowG OW_46.out hB17 (Nat.le_refl _))
        have OW_68 := Lib.hid (OW_47.out.keep hB17)
        have OW_69 := Lib.hid (OW_51.out.keep hB17)
        have BX_70 := Lib.hid (BX_48.out.below hB17 BX_48.out.lt)
        have BX_71 := Lib.hid (BX_49.out.below hB17 BX_49.out.lt)
        have BX_72 := Lib.hid (BX_50.out.below hB17 BX_50.out.lt)
        have BX_73 : Hid (Blk W17 W16.heap.size 36 #[.slice A16_0 T.data.length k16_0, .slice A16_1 T.ret.length k16_1, .int .i32 T.a, .slice A16_2 T.mem.length k16_2, .slice A16_3 T.cells.length k16_3, .slice A16_4 T.vars.length k16_4, .slice A16_5 T.out.length k16_5, .slice A16_6 T.inp.length k16_6, .int .i64 T.fault, .int .i64 T.fuel, .int .i64 q, .bool dn]) := Lib.hid kb17
        clear c_52 c_53 c_54 c_55 c_56 c_57 c_58 c_59 c_60 c_61 c_62 c_63 l_64 hb17 BE_44 OW_45 OW_46 OW_47 OW_51 BX_48 BX_49 BX_50 kb17 hB17
        go_wp2_with fail
        refine (toIc_any _ code (by omega) _ (HRc.out _ BE_65.out)).mono ?_
        rintro e W18 ⟨v18, rfl, ho18, hb18⟩
        obtain ⟨A18, c18, rfl⟩ := own_formG ho18
        have sz18 : W17.heap.size ≤ W18.heap.size := hb18.size
        have BE_74 : Hid (Below w.heap.size w W18) := Lib.hid (BE_65.out.trans (hb18.mono BE_65.out.size))
        have OW_75 := Lib.hid (OW_66.out.keep hb18)
        have OW_76 := Lib.hid (own_belowG OW_67.out hb18 (Nat.le_refl _))
        have OW_77 := Lib.hid (OW_68.out.keep hb18)
        have OW_78 := Lib.hid (OW_69.out.keep hb18)
        have BX_79 := Lib.hid (BX_70.out.below hb18 BX_70.out.lt)
        have BX_80 := Lib.hid (BX_71.out.below hb18 BX_71.out.lt)
        have BX_81 := Lib.hid (BX_72.out.below hb18 BX_72.out.lt)
        have BX_82 := Lib.hid (BX_73.out.below hb18 BX_73.out.lt)
        have hp18 := ho18.mono (show W17.heap.size ≤ _ by exact Nat.le_refl _)
        have LO_84 := Lib.hid (own_lt hp18)
        have HI_85 := Lib.hid (fun k hk => (World.ownsRow.lt hp18 k hk).2)
        have OW_83 := Lib.hid hp18
        clear BE_65 OW_66 OW_67 OW_68 OW_69 BX_70 BX_71 BX_72 BX_73 ho18 hp18 hb18
        go_wp2_with fail
        refine (eqIc_same (.slice A14 code.length c14) (.slice A18 code.length c18) code _ (RdIc.of_own OW_76.out HL62.out) (RdIc.of_own OW_83.out HL62.out)).mono ?_
        rintro e W19 ⟨rfl, hb19⟩
        have sz19 : W18.heap.size ≤ W19.heap.size := hb19.size
        have BE_86 : Hid (Below w.heap.size w W19) := Lib.hid (BE_74.out.trans (hb19.mono BE_74.out.size))
        have OW_87 := Lib.hid (OW_75.out.keep hb19)
        have OW_88 := Lib.hid (own_belowG OW_76.out hb19 (Nat.le_refl _))
        have OW_89 := Lib.hid (OW_77.out.keep hb19)
        have OW_90 := Lib.hid (OW_78.out.keep hb19)
        have OW_91 := Lib.hid (own_belowG OW_83.out hb19 (Nat.le_refl _))
        have BX_92 := Lib.hid (BX_79.out.below hb19 BX_79.out.lt)
        have BX_93 := Lib.hid (BX_80.out.below hb19 BX_80.out.lt)
        have BX_94 := Lib.hid (BX_81.out.below hb19 BX_81.out.lt)
        have BX_95 := Lib.hid (BX_82.out.below hb19 BX_82.out.lt)
        clear BE_74 OW_75 OW_76 OW_77 OW_78 OW_83 BX_79 BX_80 BX_81 BX_82 hb19
        clear OW_91 LO_84 HI_85
        obtain ⟨c_96, c_97, c_98, c_99, c_100, c_101, c_102, c_103, c_104, c_105⟩ := st_cells BX_92.out
        have l_106 : w.heap.size < W19.heap.size := BX_92.out.lt
        obtain ⟨c_107, c_108, c_109, c_110, c_111, c_112, c_113, c_114, c_115, c_116⟩ := st_cells BX_94.out
        have l_117 : W15.heap.size < W19.heap.size := BX_94.out.lt
        go_wp2_with fail
        have HS20 := Lib.hid (BE_86.out.drew)
        have OX20 := Lib.hid (show OwnSt W19.drew lo15 hi15 (.slice A15_0 S.data.length k15_0) (.slice A15_1 S.ret.length k15_1) (.slice A15_2 S.mem.length k15_2) (.slice A15_3 S.cells.length k15_3) (.slice A15_4 S.vars.length k15_4) (.slice A15_5 S.out.length k15_5) (.slice A15_6 S.inp.length k15_6) S from OW_89.out.same (fun _ _ _ _ => rfl))
        go_region_held3 (fun w' => w'.cell? ⟨W15.heap.size, 0, none⟩ = some (.slice A15_0 S.data.length k15_0) ∧ w'.cell? ⟨W15.heap.size, 1, none⟩ = some (.slice A15_1 S.ret.length k15_1) ∧ w'.cell? ⟨W15.heap.size, 2, none⟩ = some (.int .i32 S.a) ∧ w'.cell? ⟨W15.heap.size, 3, none⟩ = some (.slice A15_2 S.mem.length k15_2) ∧ w'.cell? ⟨W15.heap.size, 4, none⟩ = some (.slice A15_3 S.cells.length k15_3) ∧ w'.cell? ⟨W15.heap.size, 5, none⟩ = some (.slice A15_4 S.vars.length k15_4) ∧ w'.cell? ⟨W15.heap.size, 6, none⟩ = some (.slice A15_5 S.out.length k15_5) ∧ w'.cell? ⟨W15.heap.size, 7, none⟩ = some (.slice A15_6 S.inp.length k15_6) ∧ w'.cell? ⟨W15.heap.size, 8, none⟩ = some (.int .i64 S.fault) ∧ w'.cell? ⟨W15.heap.size, 9, none⟩ = some (.int .i64 S.fuel) ∧ w'.cell? ⟨w.heap.size, 0, none⟩ = some (.slice A0 S.data.length c0) ∧ w'.cell? ⟨w.heap.size, 1, none⟩ = some (.slice A1 S.ret.length c1) ∧ w'.cell? ⟨w.heap.size, 2, none⟩ = some (.int .i32 S.a) ∧ w'.cell? ⟨w.heap.size, 3, none⟩ = some (.slice A2 S.mem.length c2) ∧ w'.cell? ⟨w.heap.size, 4, none⟩ = some (.slice A3 S.cells.length c3) ∧ w'.cell? ⟨w.heap.size, 5, none⟩ = some (.slice A4 S.vars.length c4) ∧ w'.cell? ⟨w.heap.size, 6, none⟩ = some (.slice A5 S.out.length c5) ∧ w'.cell? ⟨w.heap.size, 7, none⟩ = some (.slice A6 S.inp.length c6) ∧ w'.cell? ⟨w.heap.size, 8, none⟩ = some (.int .i64 S.fault) ∧ w'.cell? ⟨w.heap.size, 9, none⟩ = some (.int .i64 S.fuel)) (first | exact st_cells2 BX_94.out BX_92.out | go_keep | exact st_cells2 (Blk.below BX_94.out.drew hb20_1 BX_94.out.lt) (Blk.below BX_92.out.drew hb20_1 BX_92.out.lt) | exact st_cells2 (Blk.below BX_94.out.drew (hb20_1.trans (hb20_2.mono hb20_1.size)) BX_94.out.lt) (Blk.below BX_92.out.drew (hb20_1.trans (hb20_2.mono hb20_1.size)) BX_92.out.lt)) (first | (go_at_call 8; refine (tost_any (.slice A0 S.data.length c0) (.slice A1 S.ret.length c1) (.slice A2 S.mem.length c2) (.slice A3 S.cells.length c3) (.slice A4 S.vars.length c4) (.slice A5 S.out.length c5) (.slice A6 S.inp.length c6) S (by omega) _ (HRa.out _ HS20.out)).mono ?_; rintro e V20 ⟨t20_0, t20_1, t20_2, t20_3, t20_4, t20_5, t20_6, rfl, hot20, hb20_1⟩) | (go_at_call 12; refine (eqst_same (.slice A15_0 S.data.length k15_0) (.slice A15_1 S.ret.length k15_1) (.slice A15_2 S.mem.length k15_2) (.slice A15_3 S.cells.length k15_3) (.slice A15_4 S.vars.length k15_4) (.slice A15_5 S.out.length k15_5) (.slice A15_6 S.inp.length k15_6) _ _ _ _ _ _ _ S _ (RdSt.below (OX20.out.rd (by first | omega | assumption)) hb20_1) (hot20.rd (by first | omega | assumption))).mono ?_; rintro e W20 ⟨rfl, hb20_2⟩))
        have hB20 : Below W19.heap.size W19 W20 := (Below.refl _ _).drew.trans (hb20_1.trans (hb20_2.mono hb20_1.size))
        have sz20 : W19.heap.size ≤ W20.heap.size := hB20.size
        have BE_118 : Hid (Below w.heap.size w W20) := Lib.hid (BE_86.out.trans (hB20.mono BE_86.out.size))
        have OW_119 := Lib.hid (OW_87.out.keep hB20)
        have OW_120 := Lib.hid (own_belowG OW_88.out hB20 (Nat.le_refl _))
        have OW_121 := Lib.hid (OW_89.out.keep hB20)
        have OW_122 := Lib.hid (OW_90.out.keep hB20)
        have BX_123 := Lib.hid (BX_92.out.below hB20 BX_92.out.lt)
        have BX_124 := Lib.hid (BX_93.out.below hB20 BX_93.out.lt)
        have BX_125 := Lib.hid (BX_94.out.below hB20 BX_94.out.lt)
        have BX_126 := Lib.hid (BX_95.out.below hB20 BX_95.out.lt)
        clear hb20_1 hb20_2 hot20 HS20 OX20 c_96 c_97 c_98 c_99 c_100 c_101 c_102 c_103 c_104 c_105 l_106 c_107 c_108 c_109 c_110 c_111 c_112 c_113 c_114 c_115 c_116 l_117 BE_86 OW_87 OW_88 OW_89 OW_90 BX_92 BX_93 BX_94 BX_95 hB20
        go_wp2_with fail
        refine (markIc_any _ (.slice A14 code.length c14) code 1 (by omega) (by omega) _ OW_120.out).mono ?_
        rintro e W21 ⟨rfl, ho21, hb21⟩
        have sz21 : W20.heap.size ≤ W21.heap.size := hb21.size
        have BE_127 : Hid (Below w.heap.size w W21) := Lib.hid (BE_118.out.grown hb21 BE_118.out.size (fun k hk => Nat.le_trans (by first | exact Nat.le_refl _ | omega) (LO_25.out k hk)))
        have OW_128 := Lib.hid (OW_119.out.same (fun k h1 h2 h3 => hb21.block k h3 (fun e => by have h4 := LO_25.out k e.symm; have h5 := HI_26.out k e.symm; omega)))
        have OW_129 := Lib.hid (OW_121.out.same (fun k h1 h2 h3 => hb21.block k h3 (fun e => by have h4 := LO_25.out k e.symm; have h5 := HI_26.out k e.symm; omega)))
        have OW_130 := Lib.hid (OW_122.out.same (fun k h1 h2 h3 => hb21.block k h3 (fun e => by have h4 := LO_25.out k e.symm; have h5 := HI_26.out k e.symm; omega)))
        have BX_131 := Lib.hid (BX_123.out.grown hb21 (box_neG BX_123.out OW_120.out (by decide)))
        have BX_132 := Lib.hid (BX_124.out.grown hb21 (box_neG BX_124.out OW_120.out (by decide)))
        have BX_133 := Lib.hid (BX_125.out.grown hb21 (box_neG BX_125.out OW_120.out (by decide)))
        have BX_134 := Lib.hid (BX_126.out.grown hb21 (box_neG BX_126.out OW_120.out (by decide)))
        have OW_135 := Lib.hid ho21
        clear BE_118 OW_119 OW_121 OW_122 BX_123 BX_124 BX_125 BX_126 OW_120 ho21 hb21
        obtain ⟨c_136, c_137, c_138, c_139, c_140, c_141, c_142, c_143, c_144, c_145⟩ := st_cells BX_133.out
        have l_146 : W15.heap.size < W21.heap.size := BX_133.out.lt
        go_wp2_with fail
        refine (HMK.out lo15 hi15 (.slice A15_0 S.data.length k15_0) (.slice A15_1 S.ret.length k15_1) (.slice A15_2 S.mem.length k15_2) (.slice A15_3 S.cells.length k15_3) (.slice A15_4 S.vars.length k15_4) (.slice A15_5 S.out.length k15_5) (.slice A15_6 S.inp.length k15_6) _ OW_129.out (by omega)).mono ?_
        rintro e W22 ⟨rfl, ho22, hb22⟩
        have sz22 : W21.heap.size ≤ W22.heap.size := hb22.size
        have BE_147 : Hid (Below w.heap.size w W22) := Lib.hid (BE_127.out.trans (hb22.below (by omega) BE_127.out.size))
        have OW_148 := Lib.hid (OW_128.out.kept hb22 (by omega))
        have OW_149 := Lib.hid (own_same OW_135.out (fun k hk => hb22.block k (by first | exact HI_26.out k hk | (have := HI_26.out k hk; omega)) (by have h1 := HI_26.out k hk; have h2 := LO_25.out k hk; omega)))
        have OW_150 := Lib.hid (OW_130.out.kept hb22 (by omega))
        have BX_151 := Lib.hid (BX_131.out.kept hb22 (by omega))
        have BX_152 := Lib.hid (BX_132.out.kept hb22 (by omega))
        have BX_153 := Lib.hid (BX_133.out.kept hb22 (by omega))
        have BX_154 := Lib.hid (BX_134.out.kept hb22 (by omega))
        have OW_155 := Lib.hid ho22
        clear c_136 c_137 c_138 c_139 c_140 c_141 c_142 c_143 c_144 c_145 l_146 BE_127 OW_128 OW_135 OW_130 BX_131 BX_132 BX_133 BX_134 OW_129 ho22 hb22
        have hk0 : ¬ ((1 : Int) + 2 * (code.length : Int) + (totSt S : Int) < 0) := by omega
        obtain ⟨c_156, c_157, c_158, c_159, c_160, c_161, c_162, c_163, c_164, c_165, c_166, c_167⟩ := mach_cells BX_154.out
        have l_168 : W16.heap.size < W22.heap.size := BX_154.out.lt
        obtain ⟨c_169, c_170, c_171, c_172, c_173, c_174, c_175, c_176, c_177, c_178, c_179, c_180⟩ := mach_cells BX_152.out
        have l_181 : b13 < W22.heap.size := BX_152.out.lt
        go_wp2_with fail
        refine (eqmach_same (.slice A16_0 T.data.length k16_0) (.slice A16_1 T.ret.length k16_1) (.slice A16_2 T.mem.length k16_2) (.slice A16_3 T.cells.length k16_3) (.slice A16_4 T.vars.length k16_4) (.slice A16_5 T.out.length k16_5) (.slice A16_6 T.inp.length k16_6) (.slice A13_0 T.data.length k13_0) (.slice A13_1 T.ret.length k13_1) (.slice A13_2 T.mem.length k13_2) (.slice A13_3 T.cells.length k13_3) (.slice A13_4 T.vars.length k13_4) (.slice A13_5 T.out.length k13_5) (.slice A13_6 T.inp.length k13_6) T q dn _ (OW_150.out.rd (by first | omega | assumption)) (OW_148.out.rd (by first | omega | assumption))).mono ?_
        rintro e W23 ⟨rfl, hb23⟩
        have sz23 : W22.heap.size ≤ W23.heap.size := hb23.size
        have BE_182 : Hid (Below w.heap.size w W23) := Lib.hid (BE_147.out.trans (hb23.mono BE_147.out.size))
        have OW_183 := Lib.hid (OW_148.out.keep hb23)
        have OW_184 := Lib.hid (own_belowG OW_149.out hb23 (Nat.le_refl _))
        have OW_185 := Lib.hid (OW_155.out.keep hb23)
        have OW_186 := Lib.hid (OW_150.out.keep hb23)
        have BX_187 := Lib.hid (BX_151.out.below hb23 BX_151.out.lt)
        have BX_188 := Lib.hid (BX_152.out.below hb23 BX_152.out.lt)
        have BX_189 := Lib.hid (BX_153.out.below hb23 BX_153.out.lt)
        have BX_190 := Lib.hid (BX_154.out.below hb23 BX_154.out.lt)
        clear c_156 c_157 c_158 c_159 c_160 c_161 c_162 c_163 c_164 c_165 c_166 c_167 l_168 c_169 c_170 c_171 c_172 c_173 c_174 c_175 c_176 c_177 c_178 c_179 c_180 l_181 BE_147 OW_148 OW_149 OW_155 OW_150 BX_151 BX_152 BX_153 BX_154 hb23
        clear hk0
        obtain ⟨c_191, c_192, c_193, c_194, c_195, c_196, c_197, c_198, c_199, c_200, c_201, c_202⟩ := mach_cells BX_190.out
        have l_203 : W16.heap.size < W23.heap.size := BX_190.out.lt
        go_wp2_with fail
        refine (markmach_any lo16 hi16 (.slice A16_0 T.data.length k16_0) (.slice A16_1 T.ret.length k16_1) (.slice A16_2 T.mem.length k16_2) (.slice A16_3 T.cells.length k16_3) (.slice A16_4 T.vars.length k16_4) (.slice A16_5 T.out.length k16_5) (.slice A16_6 T.inp.length k16_6) T q dn 1 (by omega) (by first | omega | assumption) _ OW_186.out (by omega)).mono ?_
        rintro e W24 ⟨rfl, ho24, hb24⟩
        have sz24 : W23.heap.size ≤ W24.heap.size := hb24.size
        have BE_204 : Hid (Below w.heap.size w W24) := Lib.hid (BE_182.out.trans (hb24.below (by omega) BE_182.out.size))
        have OW_205 := Lib.hid (OW_183.out.kept hb24 (by omega))
        have OW_206 := Lib.hid (own_same OW_184.out (fun k hk => hb24.block k (by first | exact HI_26.out k hk | (have := HI_26.out k hk; omega)) (by have h1 := HI_26.out k hk; have h2 := LO_25.out k hk; omega)))
        have OW_207 := Lib.hid (OW_185.out.kept hb24 (by omega))
        have BX_208 := Lib.hid (BX_187.out.kept hb24 (by omega))
        have BX_209 := Lib.hid (BX_188.out.kept hb24 (by omega))
        have BX_210 := Lib.hid (BX_189.out.kept hb24 (by omega))
        have BX_211 := Lib.hid (BX_190.out.kept hb24 (by omega))
        have OW_212 := Lib.hid ho24
        clear c_191 c_192 c_193 c_194 c_195 c_196 c_197 c_198 c_199 c_200 c_201 c_202 l_203 BE_182 OW_183 OW_184 OW_185 BX_187 BX_188 BX_189 BX_190 OW_186 ho24 hb24
        obtain ⟨c_213, c_214, c_215, c_216, c_217, c_218, c_219, c_220, c_221, c_222, c_223, c_224⟩ := mach_cells BX_211.out
        have l_225 : W16.heap.size < W24.heap.size := BX_211.out.lt
        go_wp2_with fail
        refine (heldmach_any (.slice A16_0 T.data.length k16_0) (.slice A16_1 T.ret.length k16_1) (.slice A16_2 T.mem.length k16_2) (.slice A16_3 T.cells.length k16_3) (.slice A16_4 T.vars.length k16_4) (.slice A16_5 T.out.length k16_5) (.slice A16_6 T.inp.length k16_6) T q dn 1 (by omega) (by first | omega | assumption) _ (OW_212.out.rd (by rw [markSt_tot]; first | omega | assumption))).mono ?_
        rintro e W25 ⟨rfl, hb25⟩
        have sz25 : W24.heap.size ≤ W25.heap.size := hb25.size
        have BE_226 : Hid (Below w.heap.size w W25) := Lib.hid (BE_204.out.trans (hb25.mono BE_204.out.size))
        have OW_227 := Lib.hid (OW_205.out.keep hb25)
        have OW_228 := Lib.hid (own_belowG OW_206.out hb25 (Nat.le_refl _))
        have OW_229 := Lib.hid (OW_207.out.keep hb25)
        have OW_230 := Lib.hid (OW_212.out.keep hb25)
        have BX_231 := Lib.hid (BX_208.out.below hb25 BX_208.out.lt)
        have BX_232 := Lib.hid (BX_209.out.below hb25 BX_209.out.lt)
        have BX_233 := Lib.hid (BX_210.out.below hb25 BX_210.out.lt)
        have BX_234 := Lib.hid (BX_211.out.below hb25 BX_211.out.lt)
        clear c_213 c_214 c_215 c_216 c_217 c_218 c_219 c_220 c_221 c_222 c_223 c_224 l_225 BE_204 OW_205 OW_206 OW_207 OW_212 BX_208 BX_209 BX_210 BX_211 hb25
        have hk1 : ¬ ((1 : Int) + (totSt T : Int) < 0) := by omega
        go_upto_region 31 with (fail)
        go_cut [15] from 79 (fun s8 wx => MadeM W25 T q dn s8 wx)
        case first =>
          have HD := Lib.hid (BE_226.out.drew)
          have HDA := Lib.hid ((BE_226.out.alloc BE_226.out.size (.cells #[.slice none 0 0, .slice none 0 0, .int .i32 0, .slice none 0 0, .slice none 0 0, .slice none 0 0, .slice none 0 0, .slice none 0 0, .int .i64 0, .int .i64 0, .int .i64 0, .bool false] 36)).drew)
          have hS0 := st_cells BX_231.out.drew
          have hS0a := st_cells (Blk.drew (Blk.alloc BX_231.out (.cells #[.slice none 0 0, .slice none 0 0, .int .i32 0, .slice none 0 0, .slice none 0 0, .slice none 0 0, .slice none 0 0, .slice none 0 0, .int .i64 0, .int .i64 0, .int .i64 0, .bool false] 36)))
          go_region_held3 (fun w' => w'.cell? ⟨w.heap.size, 0, none⟩ = some (.slice A0 S.data.length c0) ∧ w'.cell? ⟨w.heap.size, 1, none⟩ = some (.slice A1 S.ret.length c1) ∧ w'.cell? ⟨w.heap.size, 2, none⟩ = some (.int .i32 S.a) ∧ w'.cell? ⟨w.heap.size, 3, none⟩ = some (.slice A2 S.mem.length c2) ∧ w'.cell? ⟨w.heap.size, 4, none⟩ = some (.slice A3 S.cells.length c3) ∧ w'.cell? ⟨w.heap.size, 5, none⟩ = some (.slice A4 S.vars.length c4) ∧ w'.cell? ⟨w.heap.size, 6, none⟩ = some (.slice A5 S.out.length c5) ∧ w'.cell? ⟨w.heap.size, 7, none⟩ = some (.slice A6 S.inp.length c6) ∧ w'.cell? ⟨w.heap.size, 8, none⟩ = some (.int .i64 S.fault) ∧ w'.cell? ⟨w.heap.size, 9, none⟩ = some (.int .i64 S.fuel)) (first | (with_reducible exact hS0) | (with_reducible exact hS0a) | (with_reducible exact hS1) | (with_reducible exact hS1a) | (with_reducible exact hS2) | (with_reducible exact hS2a) | (with_reducible exact hS3) | (with_reducible exact hS3a) | (with_reducible exact hS3b) | (with_reducible exact hS3c)) (first | (go_at_call 7; refine Calls.mono (toIc_any _ code HL48.out _ (HRc.out _ ?_)) ?_; (first | exact HD.out | exact HDA.out); rintro e V1 ⟨tv, rfl, hot, h1⟩; obtain ⟨TA, tc, rfl⟩ := own_formG hot; have g1 : Below W25.heap.size W25 V1 := (by first | exact belowD h1 | exact belowA h1); have rc1 := RdIc.of_own hot HL62.out; (first | (have kb1 := Blk.below (Blk.drew (Blk.new W25 36 #[.slice none 0 0, .slice none 0 0, .int .i32 0, .slice none 0 0, .slice none 0 0, .slice none 0 0, .slice none 0 0, .slice none 0 0, .int .i64 0, .int .i64 0, .int .i64 0, .bool false])) h1 (by simp); have hbb := Nat.le_refl W25.heap.size) | skip); have hS1 := st_cells (Blk.below BX_231.out g1 BX_231.out.lt); have hS1a := st_cells (Blk.alloc (Blk.below BX_231.out g1 BX_231.out.lt) (.cells #[.slice none 0 0, .slice none 0 0, .int .i32 0, .slice none 0 0, .slice none 0 0, .slice none 0 0, .slice none 0 0, .slice none 0 0, .int .i64 0, .int .i64 0, .int .i64 0, .bool false] 36))) | (go_at_call 8; refine Calls.mono (tost_any (.slice A0 S.data.length c0) (.slice A1 S.ret.length c1) (.slice A2 S.mem.length c2) (.slice A3 S.cells.length c3) (.slice A4 S.vars.length c4) (.slice A5 S.out.length c5) (.slice A6 S.inp.length c6) S HT4.out _ (HRa.out _ ?_)) ?_; (first | exact BE_226.out.trans (Below.mono g1 BE_226.out.size) | exact (BE_226.out.trans (Below.mono g1 BE_226.out.size)).alloc (BE_226.out.trans (Below.mono g1 BE_226.out.size)).size _); rintro e V2 ⟨t0_, t1_, t2_, t3_, t4_, t5_, t6_, rfl, hos, h2⟩; have g2 : Below W25.heap.size W25 V2 := (by first | exact g1.trans (Below.mono h2 g1.size) | exact g1.trans (belowB h2 g1.size)); have rc2 : RdIc V2 (.slice TA code.length tc) code := (by first | exact RdIc.below rc1 h2 | exact RdIc.below (RdIc.below rc1 (below_alloc _ _)) h2); (first | have kb2 := Blk.below kb1 h2 kb1.lt | (have kb2 := Blk.below (Blk.new V1 36 #[.slice none 0 0, .slice none 0 0, .int .i32 0, .slice none 0 0, .slice none 0 0, .slice none 0 0, .slice none 0 0, .slice none 0 0, .int .i64 0, .int .i64 0, .int .i64 0, .bool false]) h2 (by simp); have hbb := g1.size) | skip); have hS2 := st_cells (Blk.below BX_231.out g2 BX_231.out.lt); have hS2a := st_cells (Blk.alloc (Blk.below BX_231.out g2 BX_231.out.lt) (.cells #[.slice none 0 0, .slice none 0 0, .int .i32 0, .slice none 0 0, .slice none 0 0, .slice none 0 0, .slice none 0 0, .slice none 0 0, .int .i64 0, .int .i64 0, .int .i64 0, .bool false] 36))) | (go_at_call 9; refine Calls.mono (HI.out TA tc t0_ t1_ t2_ t3_ t4_ t5_ t6_ _ ?_ ?_) ?_; (first | exact rc2 | exact RdIc.below rc2 (below_alloc _ _)); (first | exact hos.rd HT4.out | exact (hos.rd HT4.out).below (below_alloc _ _)); rintro e W26 ⟨v26_0, v26_1, v26_2, v26_3, v26_4, v26_5, v26_6, rfl, ho, h3⟩; obtain ⟨⟨A26_0, k26_0, rfl⟩, ⟨A26_1, k26_1, rfl⟩, ⟨A26_2, k26_2, rfl⟩, ⟨A26_3, k26_3, rfl⟩, ⟨A26_4, k26_4, rfl⟩, ⟨A26_5, k26_5, rfl⟩, ⟨A26_6, k26_6, rfl⟩⟩ := ho.form HTT.out; have g3 : Below W25.heap.size W25 W26 := (by first | exact g2.trans (Below.mono h3 g2.size) | exact g2.trans (belowB h3 g2.size)); (first | (have kb3 := Blk.below kb2 h3 kb2.lt; have hbl3 := kb2.lt; have hlo3 := g2.size) | (have kb3 := Blk.below (Blk.new V2 36 #[.slice none 0 0, .slice none 0 0, .int .i32 0, .slice none 0 0, .slice none 0 0, .slice none 0 0, .slice none 0 0, .slice none 0 0, .int .i64 0, .int .i64 0, .int .i64 0, .bool false]) h3 (by simp); have hbl3 : V2.heap.size < (V2.alloc (.cells #[.slice none 0 0, .slice none 0 0, .int .i32 0, .slice none 0 0, .slice none 0 0, .slice none 0 0, .slice none 0 0, .slice none 0 0, .int .i64 0, .int .i64 0, .int .i64 0, .bool false] 36)).heap.size := (by simp); have hbb := g2.size; have hlo3 := Nat.le_trans g2.size (Nat.le_of_lt hbl3)) | skip); have hS3 := st_cells (Blk.below BX_231.out g3 BX_231.out.lt); have hS3a := st_cells (Blk.alloc (Blk.below BX_231.out g3 BX_231.out.lt) (.cells #[.slice none 0 0, .slice none 0 0, .int .i32 0, .slice none 0 0, .slice none 0 0, .slice none 0 0, .slice none 0 0, .slice none 0 0, .int .i64 0, .int .i64 0, .int .i64 0, .bool false] 36)); have hS3b := st_cells (Blk.alloc (Blk.below BX_231.out g3 BX_231.out.lt) (.cells #[.slice A26_0 T.data.length k26_0, .slice A26_1 T.ret.length k26_1, .int .i32 T.a, .slice A26_2 T.mem.length k26_2, .slice A26_3 T.cells.length k26_3, .slice A26_4 T.vars.length k26_4, .slice A26_5 T.out.length k26_5, .slice A26_6 T.inp.length k26_6, .int .i64 T.fault, .int .i64 T.fuel, .int .i64 q, .bool dn] 36)); (first | (have hS3c := st_cells (keepM (Blk.below BX_231.out g3 BX_231.out.lt) kb3 BX_231.out.lt (by have e1 := g1.size; have e2 := g2.size; omega) (.slice A26_0 T.data.length k26_0) (.slice A26_1 T.ret.length k26_1) (.int .i32 T.a) (.slice A26_2 T.mem.length k26_2) (.slice A26_3 T.cells.length k26_3) (.slice A26_4 T.vars.length k26_4) (.slice A26_5 T.out.length k26_5) (.slice A26_6 T.inp.length k26_6) (.int .i64 T.fault) (.int .i64 T.fuel) (.int .i64 q) (.bool dn)); unfold putM at hS3c; obtain ⟨z0, z1, z2, z3, z4, z5, z6, z7, z8, z9, z10, z11⟩ := mach_cells kb3; have zf := kb3.frozen; have zl := kb3.lt) | skip)))
          all_goals
            go_wp2_with fail
            go_meet
            case rel => first | (have hk_ := kb3; exact MadeM.ahead g3 hlo3 ho kb3 hbb hbl3) | exact MadeM.after g3 g2.size ho
        case rest =>
          obtain ⟨b26, v26_0, v26_1, v26_2, v26_3, v26_4, v26_5, v26_6, lo26, hi26, rfl, hmm⟩ := hcut
          obtain ⟨hB26, hb26, kb26, a_lo26, a_hi26, ho26⟩ := hmm.out
          obtain ⟨⟨A26_0, k26_0, rfl⟩, ⟨A26_1, k26_1, rfl⟩, ⟨A26_2, k26_2, rfl⟩, ⟨A26_3, k26_3, rfl⟩, ⟨A26_4, k26_4, rfl⟩, ⟨A26_5, k26_5, rfl⟩, ⟨A26_6, k26_6, rfl⟩⟩ := ho26.form HTT.out
          have hbl26 := kb26.lt
          have OW_235 := Lib.hid ho26
          have BX_236 := Lib.hid kb26
          have sz26 : W25.heap.size ≤ wc.heap.size := hB26.size
          have BE_237 : Hid (Below w.heap.size w wc) := Lib.hid (BE_226.out.trans (hB26.mono BE_226.out.size))
          have OW_238 := Lib.hid (OW_227.out.keep hB26)
          have OW_239 := Lib.hid (own_belowG OW_228.out hB26 (Nat.le_refl _))
          have OW_240 := Lib.hid (OW_229.out.keep hB26)
          have OW_241 := Lib.hid (OW_230.out.keep hB26)
          have BX_242 := Lib.hid (BX_231.out.below hB26 BX_231.out.lt)
          have BX_243 := Lib.hid (BX_232.out.below hB26 BX_232.out.lt)
          have BX_244 := Lib.hid (BX_233.out.below hB26 BX_233.out.lt)
          have BX_245 := Lib.hid (BX_234.out.below hB26 BX_234.out.lt)
          clear ho26 kb26 hmm BE_226 OW_227 OW_228 OW_229 OW_230 BX_231 BX_232 BX_233 BX_234 hB26
          obtain ⟨c_246, c_247, c_248, c_249, c_250, c_251, c_252, c_253, c_254, c_255, c_256, c_257⟩ := mach_cells BX_236.out
          have l_258 : b26 < wc.heap.size := BX_236.out.lt
          obtain ⟨c_259, c_260, c_261, c_262, c_263, c_264, c_265, c_266, c_267, c_268, c_269, c_270⟩ := mach_cells BX_243.out
          have l_271 : b13 < wc.heap.size := BX_243.out.lt
          go_wp2_with fail
          refine (eqmach_same (.slice A26_0 T.data.length k26_0) (.slice A26_1 T.ret.length k26_1) (.slice A26_2 T.mem.length k26_2) (.slice A26_3 T.cells.length k26_3) (.slice A26_4 T.vars.length k26_4) (.slice A26_5 T.out.length k26_5) (.slice A26_6 T.inp.length k26_6) (.slice A13_0 T.data.length k13_0) (.slice A13_1 T.ret.length k13_1) (.slice A13_2 T.mem.length k13_2) (.slice A13_3 T.cells.length k13_3) (.slice A13_4 T.vars.length k13_4) (.slice A13_5 T.out.length k13_5) (.slice A13_6 T.inp.length k13_6) T q dn _ (OW_235.out.rd (by first | omega | assumption)) (OW_238.out.rd (by first | omega | assumption))).mono ?_
          rintro e W27 ⟨rfl, hb27⟩
          have sz27 : wc.heap.size ≤ W27.heap.size := hb27.size
          have BE_272 : Hid (Below w.heap.size w W27) := Lib.hid (BE_237.out.trans (hb27.mono BE_237.out.size))
          have OW_273 := Lib.hid (OW_238.out.keep hb27)
          have OW_274 := Lib.hid (own_belowG OW_239.out hb27 (Nat.le_refl _))
          have OW_275 := Lib.hid (OW_240.out.keep hb27)
          have OW_276 := Lib.hid (OW_241.out.keep hb27)
          have OW_277 := Lib.hid (OW_235.out.keep hb27)
          have BX_278 := Lib.hid (BX_242.out.below hb27 BX_242.out.lt)
          have BX_279 := Lib.hid (BX_243.out.below hb27 BX_243.out.lt)
          have BX_280 := Lib.hid (BX_244.out.below hb27 BX_244.out.lt)
          have BX_281 := Lib.hid (BX_245.out.below hb27 BX_245.out.lt)
          have BX_282 := Lib.hid (BX_236.out.below hb27 BX_236.out.lt)
          clear c_246 c_247 c_248 c_249 c_250 c_251 c_252 c_253 c_254 c_255 c_256 c_257 l_258 c_259 c_260 c_261 c_262 c_263 c_264 c_265 c_266 c_267 c_268 c_269 c_270 l_271 BE_237 OW_238 OW_239 OW_240 OW_241 OW_235 BX_242 BX_243 BX_244 BX_245 BX_236 hb27
          obtain ⟨c_283, c_284, c_285, c_286, c_287, c_288, c_289, c_290, c_291, c_292, c_293, c_294⟩ := mach_cells BX_281.out
          have l_295 : W16.heap.size < W27.heap.size := BX_281.out.lt
          go_wp2_with fail
          refine (heldmach_any (.slice A16_0 T.data.length k16_0) (.slice A16_1 T.ret.length k16_1) (.slice A16_2 T.mem.length k16_2) (.slice A16_3 T.cells.length k16_3) (.slice A16_4 T.vars.length k16_4) (.slice A16_5 T.out.length k16_5) (.slice A16_6 T.inp.length k16_6) T q dn 1 (by omega) (by first | omega | assumption) _ (OW_276.out.rd (by rw [markSt_tot]; first | omega | assumption))).mono ?_
          rintro e W28 ⟨rfl, hb28⟩
          have sz28 : W27.heap.size ≤ W28.heap.size := hb28.size
          have BE_296 : Hid (Below w.heap.size w W28) := Lib.hid (BE_272.out.trans (hb28.mono BE_272.out.size))
          have OW_297 := Lib.hid (OW_273.out.keep hb28)
          have OW_298 := Lib.hid (own_belowG OW_274.out hb28 (Nat.le_refl _))
          have OW_299 := Lib.hid (OW_275.out.keep hb28)
          have OW_300 := Lib.hid (OW_276.out.keep hb28)
          have OW_301 := Lib.hid (OW_277.out.keep hb28)
          have BX_302 := Lib.hid (BX_278.out.below hb28 BX_278.out.lt)
          have BX_303 := Lib.hid (BX_279.out.below hb28 BX_279.out.lt)
          have BX_304 := Lib.hid (BX_280.out.below hb28 BX_280.out.lt)
          have BX_305 := Lib.hid (BX_281.out.below hb28 BX_281.out.lt)
          have BX_306 := Lib.hid (BX_282.out.below hb28 BX_282.out.lt)
          clear c_283 c_284 c_285 c_286 c_287 c_288 c_289 c_290 c_291 c_292 c_293 c_294 l_295 BE_272 OW_273 OW_274 OW_275 OW_276 OW_277 BX_278 BX_279 BX_280 BX_281 BX_282 hb28
          go_wp2_with fail
          go_ret
          exact ⟨rfl, BE_296.out⟩
    · have hs2 : (1048576 - (code.length : Int)) < (n0 : Int) + (n1 : Int) + (n2 : Int) + (n3 : Int) + (n4 : Int) + (n5 : Int) + (n6 : Int) := by omega
      have HSZ := Lib.hid (fun W => szst_no A0 n0 c0 A1 n1 c1 A2 n2 c2 A3 n3 c3 A4 n4 c4 A5 n5 c5 A6 n6 c6 xa xf xu (1048576 - (code.length : Int)) (by omega) h0 hs2 W)
      have HSI := Lib.hid (szI_fit _ code (by omega) _ (HRc.out _ (below_alloc w (.cells #[.slice A0 n0 c0, .slice A1 n1 c1, .int .i32 xa, .slice A2 n2 c2, .slice A3 n3 c3, .slice A4 n4 c4, .slice A5 n5 c5, .slice A6 n6 c6, .int .i64 xf, .int .i64 xu] 29))))
      have KB := Lib.hid (Blk.new w 29 #[.slice A0 n0 c0, .slice A1 n1 c1, .int .i32 xa, .slice A2 n2 c2, .slice A3 n3 c3, .slice A4 n4 c4, .slice A5 n5 c5, .slice A6 n6 c6, .int .i64 xf, .int .i64 xu])
      clear hs hs2 hx h0 hrx hrg hrc hin HRc HL62
      go_enter Try.func3, Try.ntmps3
      go_wp2_with fail
      refine HSI.out.mono ?_
      rintro e w1 ⟨rfl, hb1⟩
      have kb1 := KB.out.below hb1 KB.out.lt
      have HB1 := Lib.hid ((below_alloc w (.cells #[.slice A0 n0 c0, .slice A1 n1 c1, .int .i32 xa, .slice A2 n2 c2, .slice A3 n3 c3, .slice A4 n4 c4, .slice A5 n5 c5, .slice A6 n6 c6, .int .i64 xf, .int .i64 xu] 29)).trans (hb1.mono (below_alloc w (.cells #[.slice A0 n0 c0, .slice A1 n1 c1, .int .i32 xa, .slice A2 n2 c2, .slice A3 n3 c3, .slice A4 n4 c4, .slice A5 n5 c5, .slice A6 n6 c6, .int .i64 xf, .int .i64 xu] 29)).size))
      obtain ⟨p0, p1, p2, p3, p4, p5, p6, p7, p8, p9⟩ := st_cells kb1
      have l1 : w.heap.size < w1.heap.size := kb1.lt
      clear kb1 hb1 KB HSI
      go_wp2_with fail
      refine (HSZ.out _).mono ?_
      rintro e w2 ⟨rfl, hb2⟩
      have HB2 := Lib.hid (HB1.out.trans (hb2.mono HB1.out.size))
      clear hb2 HB1 HSZ p0 p1 p2 p3 p4 p5 p6 p7 p8 p9 l1
      go_wp2_with fail
      go_ret
      exact ⟨rfl, HB2.out⟩
  · have HSI := Lib.hid (fun W => szI_not C n c hl hin.1 W)
    have B0 := Lib.hid (below_alloc w (.cells #[.slice A0 n0 c0, .slice A1 n1 c1, .int .i32 xa, .slice A2 n2 c2, .slice A3 n3 c3, .slice A4 n4 c4, .slice A5 n5 c5, .slice A6 n6 c6, .int .i64 xf, .int .i64 xu] 29))
    clear hl hin hx h0
    go_enter Try.func3, Try.ntmps3
    go_wp2_with fail
    refine (HSI.out _).mono ?_
    rintro e w1 ⟨rfl, hb1⟩
    have HB1 := Lib.hid (B0.out.trans (hb1.mono B0.out.size))
    clear hb1 B0 HSI
    go_wp2_with fail
    go_ret
    exact ⟨rfl, HB1.out⟩
end Go.Proofs.Ytmnfdbgiemappaa
