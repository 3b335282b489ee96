/-
  impl.CodeOf.
  Plain mathematics of decimal texts, no program: how the digits of a number are gathered from the last one on.
  The laws' own helpers on lists of texts: whether two are alike, the marks that are laid into one, whether they lie there.
  Lists of trees in memory: ones that can be read, ones that are a call's own.
  Lists of trees: whether two are alike, the marks that are laid into one, whether they lie there.
-/
import Derived.Test.YtofikgjoiidhmaaCO5
import Derived.Test.YtofikgjoiidhmaaCO6
import Derived.Test.YtofikgjoiidhmaaCO7
import Derived.Test.YtofikgjoiidhmaaCO1
import Derived.BigQuiet
import Derived.Lib.ItoaNum
import Derived.Lib.ItoaLen
import Derived.Laws.IdiomStrings
import Derived.Deep.RegionHeld3
import Derived.Deep.DrawnRows
import Derived.Test.YtofikgjoiidhmaaCO2
import Derived.Handy
import Derived.IntWalk
namespace Go.Proofs.Ytofikgjoiidhmaa
open Go.RowKit Go

/-- Definitions that can be read, each body with room for its length. -/
def RdDc (w : World) (v : Value) (ds : List Df) : Prop :=
  ∃ (A : Option Addr) (cap : Nat), v = .slice A ds.length cap ∧ ∀ i (h : i < ds.length), ∃ a vb, A = some a ∧ a.block < w.heap.size ∧ w.cell? (a.add (i * 2)) = some (.string ds[i].1) ∧ w.cell? ((a.add (i * 2)).add 1) = some vb ∧ RdR w vb ds[i].2
theorem RdDc.rd {w : World} {v : Value} {ds : List Df} (h : RdDc w v ds) : RdD w v ds := by
  obtain ⟨A, cap, rfl, hc⟩ := h
  exact ⟨A, cap, rfl, fun i hi => by obtain ⟨a, vb, e1, e2, e3, e4, e5⟩ := hc i hi; exact ⟨a, vb, e1, e2, e3, e4, e5.1⟩⟩
theorem RdDc.below {w w' : World} {v : Value} {ds : List Df} (h : RdDc w v ds) (hb : Below w.heap.size w w') : RdDc w' v ds := by
  obtain ⟨A, cap, rfl, hc⟩ := h
  refine ⟨A, cap, rfl, fun i hi => ?_⟩
  obtain ⟨a, vb, rfl, e2, e3, e4, e5⟩ := hc i hi
  exact ⟨a, vb, rfl, by have := hb.size; omega, (hb.cell (by rw [addr_addb]; exact e2)).trans e3, (hb.cell (by rw [addr_addb, addr_addb]; exact e2)).trans e4, e5.below hb⟩
theorem RdDc.item {w : World} {A : Option Addr} {n cap : Nat} {ds : List Df} (h : RdDc w (.slice A n cap) ds) {i : Nat} (hi : i < ds.length) : ∃ a B m bc, A = some a ∧ a.block < w.heap.size ∧ w.cell? (a.add (i * 2)) = some (.string ds[i].1) ∧ w.cell? ⟨(a.add (i * 2)).block, (a.add (i * 2)).off + 1, none⟩ = some (.slice B m bc) ∧ RdR w (.slice B m bc) ds[i].2 ∧ m = ds[i].2.length := by
  obtain ⟨A3, c4, hv4, hc4⟩ := h
  injection hv4 with e1 e2 e3
  subst e1 e3
  obtain ⟨a, vb, rfl, hb, q0, q1, q2⟩ := hc4 i hi
  obtain ⟨q3, B, bc, rfl, h9⟩ := q2
  exact ⟨a, B, _, bc, rfl, hb, q0, q1, ⟨q3, B, bc, rfl, h9⟩, rfl⟩
theorem RdR.blocks {w : World} {v : Value} {xs : List (Int × Int)} (h : RdR w v xs) (hx : 0 < xs.length) : ∀ a n c, v = .slice (some a) n c → a.block < w.heap.size := by
  intro a n c e
  obtain ⟨⟨A, cap, rfl, hl, hc⟩, -⟩ := h
  obtain ⟨a2, rfl, e2, -⟩ := hc 0 hx
  injection e with e1 e3 e4
  injection e1 with e1
  subst e1
  exact e2
theorem src_int (w : World) (n : Int) : SrcAt (w.alloc (.cells #[.int .i64 n] 3)) 1 (.slice (some ⟨w.heap.size, 0, none⟩) 1 1) 1 [.int .i64 n] := by
  refine ⟨_, _, rfl, rfl, fun h => by simp at h, fun q hq j x hj => ?_⟩
  obtain rfl : q = ⟨w.heap.size, 0, none⟩ := by injection hq with hq; exact hq.symm
  rw [addr_lit, cell_of_row _ w.heap.size (0 + j) #[.int .i64 n] 3 (0, 0) (heap_alloc_new w _), Nat.zero_add]
  simpa using hj
theorem okDefs_len2 {ds : List Df} (h : okDefs ds = true) : ds.length ≤ 24 ∧ ∀ d ∈ ds, d.2.length ≤ 60 := by
  refine ⟨(okDefs_each h).1, fun d hd => ?_⟩
  have := (okDf_shape ((okDefs_each h).2 d hd)).1
  unfold shapeB at this
  simp only [Bool.and_eq_true, decide_eq_true_eq] at this
  exact this.1
/-- The numbers of places. -/
def natI (l : List Nat) : List Int := l.map fun (n : Nat) => (n : Int)
/-- The maker that begins. -/
theorem mk_new (w : World) : MkAt w.heap.size w.heap.size (w.alloc (.cells #[.slice none 0 0, .slice none 0 0, .slice none 0 0, .slice none 0 0] 60)) [] [] [] [] [] :=
  ⟨_, _, _, _, [], [], ⟨Blk.new w _ _, World.ownsRow_nil _ _ _ _, World.ownsRow_nil _ _ _ _, World.ownsRow_nil _ _ _ _, World.ownsRow_nil _ _ _ _, fun k hk => by simp [Value.ownBlock] at hk, fun p hp => by simp at hp, Nat.le_refl _⟩, .nil, .nil⟩
theorem codes_take {tail : Bool} {tss : List (List Tr)} {i : Nat} {ts : List Tr} (h : tss[i]? = some ts) : codesL tail 0 (tss.take (i + 1)) = codesL tail 0 (tss.take i) ++ codeL tail false (widesL tail (tss.take i)) ts ∧ startsL tail 0 (tss.take (i + 1)) = startsL tail 0 (tss.take i) ++ [widesL tail (tss.take i)] := by
  rw [List.take_add_one, h, codesL_app, startsL_app]
  simp [codesL, startsL]
theorem open_ok {D top a : Nat} {xs : List Cd} (h : ∀ c ∈ xs, CdOk D top c) {p : Nat × Nat} (hp : p ∈ openC a xs) : p.2 < D := by
  induction xs generalizing a with
  | nil => simp [openC] at hp
  | cons c r ih =>
    obtain ⟨o, n⟩ := c
    cases n with
    | inl n => exact ih (fun c hc => h c (List.mem_cons_of_mem _ hc)) hp
    | inr k =>
      simp only [openC, List.mem_cons] at hp
      rcases hp with rfl | hp
      · exact (h (o, .inr k) (List.mem_cons_self ..)).2
      · exact ih (fun c hc => h c (List.mem_cons_of_mem _ hc)) hp
theorem fill_suffix (f : Nat → Int) (suf : List (Int × Int)) : ∀ (ps : List (Nat × Nat)) (l : List (Int × Int)), (∀ p ∈ ps, p.1 < l.length) → ps.foldl (fill1 f) (l ++ suf) = ps.foldl (fill1 f) l ++ suf := by
  intro ps
  induction ps with
  | nil => intro l _; rfl
  | cons p r ih =>
    intro l h
    have hp := h p (List.mem_cons_self ..)
    have e : fill1 f (l ++ suf) p = fill1 f l p ++ suf := by
      unfold fill1
      rw [List.set_append_left _ _ hp, List.getElem?_append_left hp]
    rw [List.foldl_cons, List.foldl_cons, e, ih]
    intro q hq
    rw [fill1_len]
    exact h q (List.mem_cons_of_mem _ hq)
/-- What CodeOf tells of definitions that are right. -/
def CodeEnd (w : World) (l : List (Int × Int)) (s : List Int) (e : Ending) (w' : World) : Prop :=
  ∃ v1 v2, e = .returned (.tuple #[v1, v2]) ∧ w'.ownsRow w.heap.size 55 2 v1 l.length (cdv l) ∧ w'.ownsRow w.heap.size 3 1 v2 s.length (s.map lv) ∧ Below w.heap.size w w'
theorem impl_codeof_not (ds : List Df) (hsm : SmD ds) (hok : okDefs ds = false) (tail : Bool) (v : Value) (w : World) (hr : RdD w v ds) : Calls Try.prog 8 #[v, .bool tail] w (CodeEnd w [] []) := by
  have HD := Lib.hid (impl_defs ds hsm v w hr)
  rw [hok] at HD
  obtain ⟨A, cap, rfl⟩ := hr.form
  obtain ⟨N, hN⟩ : ∃ N, ds.length = N := ⟨_, rfl⟩
  rw [hN] at HD ⊢
  clear hr hok hsm hN
  go_enter Try.func8, Try.ntmps8
  go_wp2_with fail
  refine HD.out.mono ?_
  rintro e w2 ⟨rfl, hb2⟩
  have HB2 := Lib.hid hb2
  clear hb2
  go_wp2_with fail
  go_ret2
  exact ⟨_, _, rfl, World.ownsRow_nil _ _ _ _, World.ownsRow_nil _ _ _ _, HB2.out⟩
set_option maxRecDepth 100000 in
set_option maxHeartbeats 8000000 in
theorem impl_codeof (ds : List Df) (hsm : SmD ds) (hok : okDefs ds = true) (tss : List (List Tr)) (hM : MadeC ds tss) (tail : Bool) (v : Value) (w : World) (hr : RdDc w v ds) : Calls Try.prog 8 #[v, .bool tail] w (CodeEnd w (codeV tail tss) (natI (startsL tail 0 tss))) := by
  have HD := Lib.hid (impl_defs ds hsm v w hr.rd)
  rw [hok] at HD
  have HR := Lib.hid (fun W (h : Below w.heap.size w W) => hr.below h)
  have HRL := Lib.hid hr
  obtain ⟨A, cap, rfl⟩ := hr.rd.form
  have hN24 : ds.length ≤ 24 := (okDefs_len2 hok).1
  have H60 := Lib.hid (okDefs_len2 hok).2
  have HSM := Lib.hid hsm.2
  have HMD := Lib.hid hM
  have HTS := Lib.hid (fun i (hi : i < ds.length) => hM.of.get hi)
  have HALL : Hid (∀ d ∈ ds, d.2.all okOp = true) := Lib.hid (fun d hd => by
    have := (okDf_shape ((okDefs_each hok).2 d hd)).1
    unfold shapeB at this
    simp only [Bool.and_eq_true] at this
    exact this.2.1)
  obtain ⟨N, hN⟩ : ∃ N, ds.length = N := ⟨_, rfl⟩
  have HN := Lib.hid hN
  rw [hN] at HD hN24 ⊢
  clear hr hok hsm hN hM
  go_enter Try.func8, Try.ntmps8
  go_wp2_with fail
  refine HD.out.mono ?_
  rintro e w2 ⟨rfl, hb2⟩
  have HB2 := Lib.hid hb2
  have HM0 := Lib.hid (mk_new w2)
  have HBM := Lib.hid (below_alloc1 w2 (.cells #[.slice none 0 0, .slice none 0 0, .slice none 0 0, .slice none 0 0] 60))
  clear hb2 HD
  go_wp2_with fail
  go_loopw [16] (fun vi wr => ∃ (i : Nat), vi = .int .i64 i ∧ i ≤ N ∧ Hid (∃ Gz, MkAt w2.heap.size w2.heap.size wr Gz ((codesL tail 0 (tss.take i)).map pendC) [] (openC 0 (codesL tail 0 (tss.take i))) (natI (startsL tail 0 (tss.take i)))) ∧ Hid (Below w2.heap.size w2 wr)) (fun vi _ => N - (intOf vi).toNat)
  case atStart => exact ⟨0, rfl, by omega, Lib.hid ⟨[], by simpa [codesL, startsL, openC, natI] using HM0.out⟩, HBM⟩
  case round =>
    clear HM0 HBM
    obtain ⟨i, rfl, hi, HK, HB⟩ := hrel
    by_cases hp : i < N
    · have hp' : i < ds.length := by rw [HN.out]; exact hp
      have hlo2 : w.heap.size ≤ w2.heap.size := HB2.out.size
      have hbw : Below w.heap.size w wr := HB2.out.trans (HB.out.mono hlo2)
      obtain ⟨a, B, m, bc, rfl, la, p0, p1, r0, em⟩ := (HR.out wr hbw).item hp'
      obtain ⟨a0, B0, m0, bc0, ea, la0, p00, p10, r00, em0⟩ := HRL.out.item hp'
      injection ea with ea
      subst ea
      have hsame : Value.slice B0 m0 bc0 = Value.slice B m bc := by
        have h1 := (hbw.cell (p := ⟨(a.add (i * 2)).block, (a.add (i * 2)).off + 1, none⟩) (by show (a.add (i * 2)).block < _; rw [addr_addb]; exact la0)).trans p10
        rw [h1] at p1
        exact Option.some.inj p1
      have hblk : ∀ a n c, Value.slice B m bc = .slice (some a) n c → 0 < n → a.block < w2.heap.size := fun a2 n2 c2 e hn2 => by
        have h9 := r00.blocks (by rw [hsame] at r00; injection e with e1 e2 e3; omega) a2 n2 c2 (hsame.trans e)
        omega
      obtain ⟨Gz, hk⟩ := HK.out
      have hlen := HTS.out i hp'
      obtain ⟨ts, hts, hgr⟩ := hlen
      have h60 := H60.out _ (List.getElem_mem hp')
      have hall := HALL.out _ (List.getElem_mem hp')
      have hsm := HSM.out _ (List.getElem_mem hp')
      obtain ⟨x, hx⟩ : ∃ x, ds[i] = x := ⟨_, rfl⟩
      rw [hx] at p0 r0 em hgr h60 hall hsm
      obtain ⟨nm, xs⟩ := x
      simp only at p0 r0 em hgr h60 hall hsm
      have htk := codes_take (tail := tail) hts
      have hcl : (codesL tail 0 (tss.take i)).length = widesL tail (tss.take i) := codesL_len tail _ (fun t ht => (HMD.out.each t (List.mem_of_mem_take ht)).1) 0
      have hcw : widesL tail (tss.take i) ≤ 1440 := by
        have h1 := HMD.out.wide tail
        have h2 : widesL tail tss = widesL tail (tss.take i) + widesL tail (tss.drop i) := by rw [← widesL_app, List.take_append_drop]
        omega
      have hbody : bodyM tail xs ⟨codesL tail 0 (tss.take i), []⟩ = some ⟨codesL tail 0 (tss.take (i + 1)), []⟩ := by
        rw [(body_grows tail hgr hall).1, bodyM_nil, htk.1]
        simp only [hcl]
      obtain ⟨Li, hLi⟩ : ∃ Li, codesL tail 0 (tss.take i) = Li := ⟨_, rfl⟩
      rw [hLi] at hk hcl hbody
      obtain ⟨Lj, hLj⟩ : ∃ Lj, codesL tail 0 (tss.take (i + 1)) = Lj := ⟨_, rfl⟩
      have HLj := Lib.hid hLj
      rw [hLj] at hbody
      have hsj : natI (startsL tail 0 (tss.take (i + 1))) = natI (startsL tail 0 (tss.take i)) ++ [((Li.map pendC).length : Int)] := by
        rw [htk.2]
        simp [natI, hcl]
      have HSJ := Lib.hid hsj
      obtain ⟨Si, hSi⟩ : ∃ Si, natI (startsL tail 0 (tss.take i)) = Si := ⟨_, rfl⟩
      rw [hSi] at hk HSJ
      have hsl : Si.length ≤ 24 := by
        rw [← hSi]
        have := HMD.out.few
        simp [natI, startsL_len]
        omega
      have h1 := hk.hold (.cells #[.string nm, .slice B m bc] 52)
      have hmd : (wr.heap.size, Obj.cells #[.string nm, .slice B m bc] 52) ∈ (wr.heap.size, Obj.cells #[.string nm, .slice B m bc] 52) :: Gz := by simp
      obtain ⟨vl, vs, ve, vc, ec, cc, h4, h5, h6⟩ := h1
      obtain ⟨A1, cap1, rfl⟩ := own_formM h4.rs
      obtain ⟨A0, cap0, rfl⟩ := own_formM h4.rl
      have q1 : (wr.alloc (.cells #[.string nm, .slice B m bc] 52)).cell? ⟨w2.heap.size, 1, none⟩ = some (.slice A1 Si.length cap1) := h4.box.cell 1
      have q0 : (wr.alloc (.cells #[.string nm, .slice B m bc] 52)).cell? ⟨w2.heap.size, 0, none⟩ = some (.slice A0 (Li.map pendC).length cap0) := h4.box.cell 0
      have lg := h4.box.lt
      have hLM : (Li.map pendC).length ≤ 1440 := by simp; omega
      obtain ⟨P, hP⟩ : ∃ P, (Li.map pendC).length = P := ⟨_, rfl⟩
      have hbN := below_alloc1 (wr.alloc (.cells #[.string nm, .slice B m bc] 52)) (nBox (P : Int))
      have H4 := Lib.hid (h4.below hbN)
      have src := src_int (wr.alloc (.cells #[.string nm, .slice B m bc] 52)) (P : Int)
      rw [World.size_alloc] at src
      have SRC := Lib.hid src
      clear src
      obtain ⟨M, hM⟩ : ∃ M, Si.length = M := ⟨_, rfl⟩
      have HMS := Lib.hid hM
      have RS : Hid (((wr.alloc (.cells #[.string nm, .slice B m bc] 52)).alloc (nBox (P : Int))).ownsRow w2.heap.size 3 1 (.slice A1 M cap1) M (Si.map lv)) := Lib.hid (by have h := H4.out.rs; rw [hM] at h; exact h)
      rw [hP] at q0 hLM H4 HSJ
      rw [hM] at q1 hsl H4
      have HBN : Hid (Below w2.heap.size w2 ((wr.alloc (.cells #[.string nm, .slice B m bc] 52)).alloc (nBox (P : Int)))) := Lib.hid ((HB.out.alloc HB.out.size _).alloc (by rw [World.size_alloc]; have := HB.out.size; omega) _)
      have HBR : Hid (Below w2.heap.size wr ((wr.alloc (.cells #[.string nm, .slice B m bc] 52)).alloc (nBox (P : Int)))) := Lib.hid (((Below.refl _ wr).alloc HB.out.size _).alloc (by rw [World.size_alloc]; have := HB.out.size; omega) _)
      have HRUN := Lib.hid (fun Fz W (hW : MkAt w2.heap.size w2.heap.size W Fz (Li.map pendC) [] (openC 0 Li) (Si ++ [(P : Int)])) (hr : RdR W (.slice B m bc) xs) => body_run tail xs h60 hsm.2.2 hall ⟨Li, []⟩ ⟨Lj, []⟩ (fun a ha => by simp at ha) (by simp only; omega) (by simp) hbody (.slice B m bc) W hr hblk hW)
      have H56 : Hid (Both (EndIs ((wr.heap.size, Obj.cells #[.string nm, .slice B m bc] 52) :: Gz) w2.heap.size) ec [] ∧ Both (CallIs ((wr.heap.size, Obj.cells #[.string nm, .slice B m bc] 52) :: Gz) w2.heap.size) cc (openC 0 Li)) := Lib.hid ⟨h5, h6⟩
      have HRR := Lib.hid r0
      have HBLK := Lib.hid hblk
      have HMDB := Lib.hid hmd
      have i1 : (0 : Int) ≤ (i : Int) := by omega
      have i2 : (i : Int) < (N : Int) := by omega
      obtain ⟨i0, hi0, hz0, hz1, hz2⟩ := info_parts infoL
      clear hk hgr h60 hall hsm hx htk hcl hcw hbody hLi hLj hsj hSi h4 h5 h6 hbN hP hM em em0 r0 r00 p00 p10 hsame hblk hmd la0 hbw hts hlo2
      go_wp2_with (at_builtin; refine wpList_append_src rfl _ _ 25 rfl w2.heap.size 3 i0 (.int .i64 0) 1 8 Try.underlying25 hi0 hz0 hz1 hz2 rfl (by decide) _ M _ rfl RS.out _ 1 [.int .i64 (P : Int)] rfl SRC.out (by simp [Value.oneCell']) (by unfold maxLen; omega) (by omega) HBN.out.size ?_; intro v9 w9 ho9 ha9; obtain ⟨D9, dc9, hv9⟩ := own_formM ho9; subst hv9; refine unstop ?_)
      refine Stop.go ?_
      have hrow : w9.ownsRow w2.heap.size 3 1 (.slice D9 (M + 1) dc9) (Si ++ [(P : Int)]).length ((Si ++ [(P : Int)]).map lv) := by
        rw [List.length_append, HMS.out, List.map_append]
        exact ho9
      have KEY := Lib.hid (H4.out.putS (s2 := Si ++ [(P : Int)]) hrow ha9.out)
      have hk2 : Blk w9 w2.heap.size 60 _ := H4.out.box.grown ha9.out.grown (fun e => box_neM H4.out.box H4.out.rs (by decide) e.symm)
      have f9 := hk2.frozen 1
      obtain ⟨u9, p9⟩ : ∃ u, w9.cell? ⟨w2.heap.size, 1, none⟩ = some u := ⟨_, hk2.cell 1⟩
      have lg9 := hk2.lt
      have hbk := KEY.out.1.cells2 HMDB.out
      have d1 : (w9.setCell ⟨w2.heap.size, 1, none⟩ (.slice D9 (M + 1) dc9)).cell? ⟨wr.heap.size, 1, none⟩ = some (.slice B m bc) := hbk.2
      have ld : wr.heap.size < w9.heap.size := by
        have := (Array.getElem?_eq_some_iff.1 (KEY.out.1.fz _ HMDB.out).1).1
        rwa [World.size_setCell] at this
      have HC := Lib.hid (HRUN.out _ _ ⟨_, _, _, _, _, _, KEY.out.1, H56.out.1, H56.out.2⟩ (HRR.out.low HBLK.out (HBR.out.trans KEY.out.2)))
      have HB9 := Lib.hid (HBN.out.trans KEY.out.2)
      clear ho9 ha9 hrow hk2 hbk KEY SRC RS q1 q0 H4 p0 p1 HRUN HRR HBN HBR H56
      go_wp2_with fail
      refine HC.out.mono ?_
      rintro e w10 ⟨rfl, ⟨Hz, hz, h20⟩, hb20⟩
      have HK2 : Hid (∃ Gz, MkAt w2.heap.size w2.heap.size w10 Gz ((codesL tail 0 (tss.take (i + 1))).map pendC) [] (openC 0 (codesL tail 0 (tss.take (i + 1)))) (natI (startsL tail 0 (tss.take (i + 1))))) := Lib.hid (by rw [HLj.out, HSJ.out]; exact ⟨Hz, h20⟩)
      have HB10 := Lib.hid (HB9.out.trans hb20)
      clear hz h20 hb20 HC HB9 d1 f9 p9
      go_wp2_with fail
      go_roundw
      case rel => exact ⟨i + 1, by go_num, by omega, HK2, HB10⟩
      case measure => simp [intOf]; omega
    · obtain rfl : i = N := by omega
      obtain ⟨Gz, hk⟩ := HK.out
      have e0 : tss.take i = tss := List.take_of_length_le (by rw [HMD.out.of.len, HN.out]; omega)
      rw [e0] at hk
      have hcl : (codesL tail 0 tss).length = widesL tail tss := codesL_len tail _ (fun t ht => (HMD.out.each t ht).1) 0
      have hcw := HMD.out.wide tail
      have HFO := Lib.hid (fill_open (startI (startsL tail 0 tss)) (codesL tail 0 tss) [])
      have HLT : Hid (∀ p ∈ openC 0 (codesL tail 0 tss), p.1 < (codesL tail 0 tss).length ∧ p.2 < tss.length) := Lib.hid (fun p hp => by
        have h1 := openC_lt hp
        refine ⟨by omega, ?_⟩
        have h2 := codesL_ok ds.length tail tss (fun ts ht => ⟨(HMD.out.each ts ht).1, (HMD.out.each ts ht).2.2⟩) 0
        rw [HMD.out.of.len]
        exact open_ok h2 hp)
      have HV : Hid (codeV tail tss = (codesL tail 0 tss).map (resC (startI (startsL tail 0 tss))) ++ [(9, 0)]) := Lib.hid rfl
      have hstl : (natI (startsL tail 0 tss)).length = tss.length := by simp [natI, startsL_len]
      have HSK : Hid (∀ k (h : k < (natI (startsL tail 0 tss)).length), (natI (startsL tail 0 tss))[k] = startI (startsL tail 0 tss) k) := Lib.hid (fun k h => by
        have hk2 : k < (startsL tail 0 tss).length := by rw [startsL_len, ← hstl]; exact h
        simp [natI, startI, List.getElem?_eq_getElem hk2])
      have hfew := HMD.out.few
      obtain ⟨ff, hff⟩ : ∃ ff, startI (startsL tail 0 tss) = ff := ⟨_, rfl⟩
      rw [hff] at HFO HV HSK
      obtain ⟨L, hL⟩ : ∃ L, codesL tail 0 tss = L := ⟨_, rfl⟩
      rw [hL] at HFO HV HLT hk hcl
      obtain ⟨St, hSt⟩ : ∃ St, natI (startsL tail 0 tss) = St := ⟨_, rfl⟩
      rw [hSt] at hk hstl HSK
      have HST9 := Lib.hid hSt
      have HS9 := Lib.hid (mstep_any 9 0 (by simp; omega) hk)
      clear hk HK hff hL hSt e0
      go_wp2_with fail
      refine HS9.out.mono ?_
      rintro e w3 ⟨rfl, h3, hb3⟩
      obtain ⟨vl, vs, ve, vc, ec, cc, h4, h5, h6⟩ := h3
      have HB3 := Lib.hid (HB.out.trans hb3)
      clear hb3 HS9 HB
      obtain ⟨A1, cap1, rfl⟩ := own_formM h4.rc
      have q3 : w3.cell? ⟨w2.heap.size, 3, none⟩ = some (.slice A1 cc.length cap1) := h4.box.cell 3
      have lg := h4.box.lt
      obtain ⟨K, hK⟩ : ∃ K, cc.length = K := ⟨_, rfl⟩
      have hKl := h6.len
      have hKo := open_len 0 L
      rw [hK] at h4 q3
      obtain ⟨l0, hl0⟩ : ∃ l0, L.map pendC ++ [((9 : Int), (0 : Int))] = l0 := ⟨_, rfl⟩
      have hll0 : l0.length = L.length + 1 := by rw [← hl0]; simp
      rw [hl0] at h4
      have HMK := Lib.hid h4
      have HCL := Lib.hid h6
      have HKK : Hid (cc.length = K) := Lib.hid hK
      have hK2 : K ≤ 1441 := by omega
      have hL2 : L.length ≤ 1440 := by omega
      have HKO : Hid ((openC 0 L).length = K) := Lib.hid (by rw [← hK]; exact hKl.symm)
      have HSL : Hid (St.length = tss.length) := Lib.hid hstl
      have HEND : Hid ((openC 0 L).foldl (fill1 ff) l0 = codeV tail tss) := Lib.hid (by
        rw [HV.out, ← hl0, fill_suffix _ _ _ _ (fun p hp => by have := (HLT.out p hp).1; simpa using this)]
        have := HFO.out
        simp only [List.length_nil, List.nil_append] at this
        rw [this])
      clear h4 h5 h6 hK hKl hKo hl0 hcl hcw hstl HFO HV
      go_wp2_with fail
      go_loopw [10, 37] (fun vf vj wr2 => ∃ (j : Nat), vj = .int .i64 j ∧ j ≤ K ∧ Hid (Mk4 w2.heap.size w2.heap.size wr2 Gz vl vs ve (.slice A1 K cap1) (((openC 0 L).take j).foldl (fill1 ff) l0) St ec cc) ∧ Hid (Below w2.heap.size w2 wr2)) (fun _ vj _ => K - (intOf vj).toNat)
      case atStart => exact ⟨0, rfl, by omega, HMK, HB3⟩
      case round =>
        rename World => wr2
        clear q3 HMK HB3
        obtain ⟨j, rfl, hj, HM, HB4⟩ := hrel
        by_cases hpj : j < K
        · have hjo : j < (openC 0 L).length := by rw [HKO.out]; exact hpj
          obtain ⟨x, hx, bm, bk, ba, hbm, hbk, hba, rfl⟩ := HCL.out.get hjo
          have hpl := HLT.out _ (List.getElem_mem hjo)
          have htk2 : ((openC 0 L).take (j + 1)).foldl (fill1 ff) l0 = fill1 ff (((openC 0 L).take j).foldl (fill1 ff) l0) (openC 0 L)[j] := by
            rw [List.take_succ_eq_append_getElem hjo, List.foldl_append]
            rfl
          obtain ⟨ak, hak⟩ : ∃ ak, (openC 0 L)[j] = ak := ⟨_, rfl⟩
          rw [hak] at hbk hba hpl htk2
          obtain ⟨a9, k9⟩ := ak
          simp only at hbm hbk hba hpl
          have hfl : (((openC 0 L).take j).foldl (fill1 ff) l0).length = L.length + 1 := by rw [fill_len]; exact hll0
          have h9 := HM.out
          obtain ⟨lj, hlj⟩ : ∃ lj, ((openC 0 L).take j).foldl (fill1 ff) l0 = lj := ⟨_, rfl⟩
          rw [hlj] at hfl htk2 h9
          have hal : a9 < lj.length := by omega
          have hkl : k9 < St.length := by rw [HSL.out]; exact hpl.2
          have hnew : ((openC 0 L).take (j + 1)).foldl (fill1 ff) l0 = lj.set a9 (lj[a9].1, St[k9]) := by
            rw [htk2, HSK.out k9 hkl]
            simp [fill1, List.getElem?_eq_getElem hal]
          have HC9 := Lib.hid (startend4 hbm hbk hba hal hkl (by rw [HSL.out]; omega) (by omega) h9)
          obtain ⟨ln, hln⟩ : ∃ ln, lj.set a9 (lj[a9].1, St[k9]) = ln := ⟨_, rfl⟩
          rw [hln] at hnew HC9
          have HNEW := Lib.hid hnew
          have hrc := h9.rc
          rw [HKK.out] at hrc
          obtain ⟨q9, cap9, hq9, hc9, hq9l, -⟩ := own_posM hrc (by omega)
          injection hq9 with e1 e2 e3
          subst e1 e3
          have c0 : wr2.cell? ⟨q9, j, none⟩ = some (.func (.func 58) #[] #[.pointer (some ⟨bm, 0, none⟩), .pointer (some ⟨bk, 0, none⟩), .pointer (some ⟨ba, 0, none⟩)]) := by
            rw [hrc.cellAt j (by omega)]
            exact hx
          have j1 : (0 : Int) ≤ (j : Int) := by omega
          have j2 : (j : Int) < (K : Int) := by omega
          clear hln hx hbm hbk hba hpl htk2 hak hfl h9 hlj hal hkl hnew hrc hjo hq9l
          go_wp2_with fail
          refine HC9.out.mono ?_
          rintro e w5 ⟨rfl, h10, hb10⟩
          have HM5 : Hid (Mk4 w2.heap.size w2.heap.size w5 Gz vl vs ve (.slice (some ⟨q9, 0, none⟩) K cap1) (((openC 0 L).take (j + 1)).foldl (fill1 ff) l0) St ec cc) := Lib.hid (by rw [HNEW.out]; exact h10)
          have HB5 := Lib.hid (HB4.out.trans hb10)
          clear h10 hb10 HC9 c0 HM HB4 HNEW
          go_wp2_with fail
          go_roundw
          case rel => exact ⟨j + 1, by go_num, by omega, HM5, HB5⟩
          case measure => simp [intOf]; omega
        · obtain rfl : j = K := by omega
          have hfin : (openC 0 L).take j = openC 0 L := List.take_of_length_le (by rw [HKO.out]; omega)
          have h9 := HM.out
          rw [hfin, HEND.out] at h9
          have HFIN := Lib.hid (fun n => h9.below (below_drewN (Below.refl wr2.heap.size wr2) n))
          have HLO := Lib.hid HB2.out.size
          have HBF := Lib.hid (fun n => below_drewN (HB2.out.trans (HB4.out.mono HB2.out.size)) n)
          have r0 : wr2.cell? ⟨w2.heap.size, 0, none⟩ = some vl := h9.box.cell 0
          have r1 : wr2.cell? ⟨w2.heap.size, 1, none⟩ = some vs := h9.box.cell 1
          have lg2 := h9.box.lt
          obtain ⟨B1, bc1, rfl⟩ := own_formM h9.rl
          obtain ⟨B2, bc2, rfl⟩ := own_formM h9.rs
          clear h9 HM HB4 hfin
          go_wp2_with fail
          go_quiet (fail)
          go_wp2_with fail
          go_ret2
          refine ⟨_, _, rfl, (HFIN.out _).rl.mono HLO.out, ?_, HBF.out _⟩
          rw [HST9.out]
          exact (HFIN.out _).rs.mono HLO.out
end Go.Proofs.Ytofikgjoiidhmaa

namespace Go.Proofs.Ytofikgjoiidhmaa

/-- The decimal digits of u, none for 0. -/
def dd (u : Nat) : List UInt8 := if u = 0 then [] else Lib.decDigits u
theorem dd_zero : dd 0 = [] := rfl
theorem dd_pos {u : Nat} (h : u ≠ 0) : dd u = Lib.decDigits u := by unfold dd; rw [if_neg h]
theorem dd_step {u : Nat} (h : u ≠ 0) : dd u = dd (u / 10) ++ [UInt8.ofNat (48 + u % 10)] := by
  rw [dd_pos h, Lib.decDigits]
  by_cases h10 : u < 10
  · rw [dif_pos h10]
    have : u / 10 = 0 := by omega
    rw [this, dd_zero, Nat.mod_eq_of_lt h10]; rfl
  · rw [dif_neg h10, dd_pos (by omega)]
theorem dd_length {u : Nat} (h : u < 18446744073709551616) : (dd u).length ≤ 20 := by
  by_cases h0 : u = 0
  · subst h0; rw [dd_zero]; simp
  · rw [dd_pos h0, Lib.decDigits_length]; exact Lib.nDigits_le20 u h

def tenDigits : ByteArray := ⟨#[48, 49, 50, 51, 52, 53, 54, 55, 56, 57]⟩
theorem tenDigits_one_fin : ∀ i : Fin 10, tenDigits.extract i.val (i.val + 1) = ⟨#[UInt8.ofNat (48 + i.val)]⟩ := by decide +kernel
theorem tenDigits_one {i : Nat} (h : i < 10) : tenDigits.extract i (i + 1) = ⟨#[UInt8.ofNat (48 + i)]⟩ := tenDigits_one_fin ⟨i, h⟩
end Go.Proofs.Ytofikgjoiidhmaa

namespace Go.Proofs.Ytofikgjoiidhmaa
open Go.RowKit Go

/-- A list of texts that can be read. -/
def Rd (w : World) (v : Value) (xs : List ByteArray) : Prop :=
  ∃ (A : Option Addr) (cap : Nat), v = .slice A xs.length cap ∧ xs.length ≤ 4611686018427387904 ∧ ∀ i (h : i < xs.length), ∃ g, A = some ⟨g, 0, none⟩ ∧ g < w.heap.size ∧ w.cell? ⟨g, i, none⟩ = some (.string xs[i])
theorem Rd.below {w w' : World} {v : Value} {xs : List ByteArray} (h : Rd w v xs) (hb : Below w.heap.size w w') : Rd w' v xs := by
  obtain ⟨A, cap, e, hl, hc⟩ := h
  exact ⟨A, cap, e, hl, fun i hi => by obtain ⟨g, e1, e2, e3⟩ := hc i hi; exact ⟨g, e1, by have := hb.size; omega, (hb.cell (p := ⟨g, i, none⟩) e2).trans e3⟩⟩
theorem Rd.of_own {w : World} {base : Nat} {e : TypeId} {v : Value} {xs : List ByteArray} (h : w.ownsRow base e 1 v xs.length (xs.map Value.string)) (hl : xs.length ≤ 4611686018427387904) : Rd w v xs := by
  rcases h.2 with ⟨rfl, h0⟩ | ⟨g, cap, cur, rfl, hb, hg, hn, hm, hsz, ht⟩
  · refine ⟨none, 0, by rw [h0], hl, fun i hi => by omega⟩
  · refine ⟨_, cap, rfl, hl, fun i hi => ⟨g, rfl, (Array.getElem?_eq_some_iff.1 hg).1, ?_⟩⟩
    rw [cell_of_row w g i cur e (0, 0) hg]
    have h1 := congrArg (·[i]?) ht
    simpa [List.getElem?_take, hi] using h1

theorem str_ne (a b : ByteArray) (h : a ≠ b) : (a.toList == b.toList) = false := by
  rw [ByteArray.toList_eq, ByteArray.toList_eq]
  simpa using fun e => h (Go.WideShapes.bytes_inj e)

/-- The text that marks place k. -/
def mkT (k : Nat) : ByteArray := ⟨(109 :: dd k).toArray⟩
theorem mk_end {l : List UInt8} {k : Nat} (h : dd 0 ++ l = dd k) : Ending.returned (.string ((⟨#[109]⟩ : ByteArray) ++ ⟨l.toArray⟩)) = .returned (.string (mkT k)) := by
  rw [dd_zero, List.nil_append] at h
  rw [h, ByteArray.mk_append_mk]
  simp [mkT]
theorem mark_string (l : List UInt8) (c : UInt8) : Value.string ((⟨[c].toArray⟩ : ByteArray) ++ ⟨l.toArray⟩) = .string ⟨(c :: l).toArray⟩ := by
  rw [ByteArray.mk_append_mk]
  simp
set_option maxRecDepth 100000 in
set_option maxHeartbeats 1000000 in
theorem mark_any (k : Nat) (h0 : 1 ≤ k) (h1 : k < 4611686018427387904) (w : World) :
    Calls Try.prog 32 #[.int .i64 k] w fun e w' => e = .returned (.string (mkT k)) ∧ Below w.heap.size w w' := by
  have hnl := dd_length (u := k) (by omega)
  have i0 : (0 : Int) < (k : Int) := by omega
  go_enter Try.func32, Try.ntmps32
  go_wp2
  go_loopw [0, 3] (fun vk vo wr => ∃ (j : Nat) (l : List UInt8), vk = .int .i64 j ∧ vo = .string ⟨l.toArray⟩ ∧ j ≤ k ∧ Hid (dd j ++ l = dd k) ∧ Below w.heap.size w wr) (fun vk _ _ => (intOf vk).toNat)
  case atStart => exact ⟨k, [], rfl, rfl, Nat.le_refl _, Lib.hid (by simp), Below.refl _ _⟩
  case round =>
    obtain ⟨j, l, rfl, rfl, hj, HD, hB⟩ := hrel
    have hll : l.length ≤ 20 := by
      have := congrArg List.length HD.out
      simp at this; omega
    by_cases hz : j = 0
    · subst hz
      go_wp2
      go_ret
      exact ⟨mk_end HD.out, hB⟩
    · have i1 : (0 : Int) < (j : Int) := by omega
      have hcu : (48 + (j : Int) % 10) % 256 = 48 + (j : Int) % 10 := by omega
      have hu8 : (((UInt8.ofNat (48 + j % 10)).toNat : Nat) : Int) = 48 + (j : Int) % 10 := by rw [UInt8.toNat_ofNat']; omega
      obtain ⟨c, hcd⟩ : ∃ c, c = UInt8.ofNat (48 + j % 10) := ⟨_, rfl⟩
      have HD2 : Hid (dd (j / 10) ++ c :: l = dd k) := Lib.hid (by have h := HD.out; rw [dd_step hz] at h; rw [hcd]; simpa using h)
      rw [← hcd] at hu8
      clear hcd
      have hcv := run_convert_bytes_back (P := Try.prog) (wr.alloc (.cells #[.int .u8 (48 + (j : Int) % 10)] 5)) 85 9 5 ⟨wr.heap.size, 0, none⟩ 1 [c] Try.underlying85 Try.underlying5 Try.underlying9 (fun i hi => by
        obtain rfl : i = 0 := by simpa using hi
        rw [show (⟨wr.heap.size, 0, none⟩ : Addr).add 0 = ⟨wr.heap.size, 0, none⟩ from rfl, World.cell?_alloc_new, List.getElem_cons_zero, hu8]
        rfl)
      simp only [List.length_cons, List.length_nil, Nat.zero_add] at hcv
      clear hu8
      have hst := mark_string l c
      have HS := Lib.hid hst
      clear hst
      go_wp2
      go_roundw
      case rel => exact ⟨j / 10, _, by go_num, HS.out, by omega, HD2.out, hB.alloc hB.size _⟩
      case measure => simp [intOf]; omega

/-- n marks, from k on. -/
def marks (k n : Nat) : List ByteArray := (List.range n).map fun j => mkT (k + j)
theorem marks_len (k n : Nat) : (marks k n).length = n := by simp [marks]
theorem marks_at (k n j : Nat) (h : j < n) : (marks k n)[j]'(by rw [marks_len]; exact h) = mkT (k + j) := by simp [marks]
theorem infoStr : (Try.prog.info? 9).map (fun i => (i.zero, i.size, i.bytes)) = some (some (.string ⟨#[]⟩), 1, 16) := by kernel_rfl

attribute [local go_sem ↓] Go.wp_at_zero Go.wp_at_succ
theorem keep_old {w W1 W2 : World} {a : Addr} {v : Value} (hl : a.block < w.heap.size) (hc : w.cell? a = some v) (h1 : Below w.heap.size w W1) (h2 : Below W1.heap.size W1 W2) : W2.cell? a = some v ∧ Below w.heap.size w W2 :=
  have h3 := h1.trans (h2.mono h1.size)
  ⟨(h3.cell hl).trans hc, h3⟩

/-- Whether the marks lie in a list. -/
def heldAt (xs : List ByteArray) (k : Nat) : Int := if xs = marks k xs.length then (k : Int) + xs.length else -1
theorem marks_succ (k i : Nat) : marks k (i + 1) = marks k i ++ [mkT (k + i)] := by unfold marks; rw [List.range_succ]; simp
theorem marks_set {xs : List ByteArray} {k i : Nat} (h : i < xs.length) : ((marks k i ++ xs.drop i).map Value.string).set i (.string (mkT (k + i))) = (marks k (i + 1) ++ xs.drop (i + 1)).map Value.string := by
  rw [marks_succ, List.map_append, List.map_append, List.set_append_right _ _ (by simp [marks_len]), List.length_map, marks_len, Nat.sub_self, List.drop_eq_getElem_cons h, List.map_cons, List.set_cons_zero]
  simp
/-- Where marking stands: block g holds i marks, then what it held. -/
structure Marked (W wr : World) (g : Nat) (n : Nat) (xs : List ByteArray) (k i : Nat) (cap : Nat) (cur : Array Value) : Prop where
  blk : Blk wr g 9 cur
  size : cur.size = cap
  take : cur.toList.take n = (marks k i ++ xs.drop i).map Value.string
  grown : W.grownBy wr (some g)
theorem Marked.step {W wr w2 : World} {g : Nat} {xs : List ByteArray} {k i cap : Nat} {cur : Array Value} (h : Marked W wr g xs.length xs k i cap cur) (hi : i < xs.length) (hb : Below wr.heap.size wr w2) :
    Marked W (w2.setCell ⟨g, i, none⟩ (.string (mkT (k + i)))) g xs.length xs k (i + 1) cap (cur.setIfInBounds i (.string (mkT (k + i)))) := by
  refine ⟨(h.blk.below hb h.blk.lt).put _ _, by simpa using h.size, ?_, only_setCell (only_trans h.grown (only_of_below hb _)) (.inl rfl) _⟩
  rw [Array.toList_setIfInBounds, List.take_set, h.take, marks_set hi]
theorem Marked.cell {W wr w2 : World} {g n : Nat} {xs : List ByteArray} {k i cap : Nat} {cur : Array Value} (h : Marked W wr g n xs k i cap cur) (hi : i < cap) (hb : Below wr.heap.size wr w2) : ∃ u, w2.cell? ⟨g, i, none⟩ = some u ∧ w2.frozen? ⟨g, i, none⟩ = false := by
  have h2 := h.blk.below hb h.blk.lt
  have hs := h.size
  exact ⟨cur[i]'(by omega), by rw [h2.cell, Array.getElem?_eq_getElem (by omega)], h2.frozen i⟩

end Go.Proofs.Ytofikgjoiidhmaa

namespace Go.Proofs.Ytofikgjoiidhmaa
open Go.RowKit Go

/-- The cells of a list of trees, whose kids' lists are f's values. -/
def trv (f : Nat → Value) : Nat → List Tr → List Value
  | _, [] => []
  | i, t :: r => .int .i64 t.k :: .int .i32 t.n :: f i :: trv f (i + 1) r
theorem trv_len (f : Nat → Value) (i : Nat) (xs : List Tr) : (trv f i xs).length = xs.length * 3 := by
  induction xs generalizing i with
  | nil => rfl
  | cons s r ih => simp only [trv, List.length_cons, ih]; omega
theorem trv_app (f : Nat → Value) (i : Nat) (xs ys : List Tr) : trv f i (xs ++ ys) = trv f i xs ++ trv f (i + xs.length) ys := by
  induction xs generalizing i with
  | nil => simp [trv]
  | cons s r ih => simp only [trv, List.cons_append, List.length_cons, ih]; rw [show i + 1 + r.length = i + (r.length + 1) by omega]
theorem trv_congr {f f2 : Nat → Value} {i : Nat} {xs : List Tr} (h : ∀ j, j < xs.length → f (i + j) = f2 (i + j)) : trv f i xs = trv f2 i xs := by
  induction xs generalizing i with
  | nil => rfl
  | cons s r ih =>
    have h0 := h 0 (by simp)
    simp only [Nat.add_zero] at h0
    simp only [trv, h0]
    rw [ih (fun j hj => by have := h (j + 1) (by simpa using hj); rwa [show i + (j + 1) = i + 1 + j by omega] at this)]
theorem trv_get {f : Nat → Value} {i0 : Nat} {xs : List Tr} {i : Nat} (h : i < xs.length) : (trv f i0 xs)[i * 3]? = some (.int .i64 xs[i].k) ∧ (trv f i0 xs)[i * 3 + 1]? = some (.int .i32 xs[i].n) ∧ (trv f i0 xs)[i * 3 + 2]? = some (f (i0 + i)) := by
  induction xs generalizing i i0 with
  | nil => simp at h
  | cons s r ih =>
    cases i with
    | zero => simp [trv]
    | succ i =>
      have := ih (i0 := i0 + 1) (i := i) (by simpa using h)
      rw [show (i + 1) * 3 = i * 3 + 3 by omega, show i * 3 + 3 + 1 = i * 3 + 1 + 3 by omega, show i * 3 + 3 + 2 = i * 3 + 2 + 3 by omega]
      rw [show i0 + 1 + i = i0 + (i + 1) by omega] at this
      simpa [trv] using this
theorem trv_one {f : Nat → Value} {i : Nat} {xs : List Tr} (hf : ∀ j, (f j).oneCell' = true) : ∀ u ∈ trv f i xs, u.oneCell' = true := by
  induction xs generalizing i with
  | nil => intro u hu; cases hu
  | cons s r ih =>
    intro u hu
    simp only [trv, List.mem_cons] at hu
    rcases hu with rfl | rfl | rfl | hu
    · rfl
    · rfl
    · exact hf i
    · exact ih u hu
/-- A list of trees that can be read. -/
inductive RdT (w : World) : Value → List Tr → Prop
  | mk (A : Option Addr) (cap : Nat) (xs : List Tr) (f : Nat → Value)
    (h1 : ∀ i (h : i < xs.length), ∃ a, A = some a ∧ a.block < w.heap.size ∧ w.cell? (a.add (i * 3)) = some (.int .i64 xs[i].k) ∧ w.cell? ((a.add (i * 3)).add 1) = some (.int .i32 xs[i].n) ∧ w.cell? ((a.add (i * 3)).add 2) = some (f i))
    (h2 : ∀ i (h : i < xs.length), RdT w (f i) xs[i].kids) : RdT w (.slice A xs.length cap) xs
theorem RdT.form {w : World} {v : Value} {xs : List Tr} (h : RdT w v xs) : ∃ A cap, v = .slice A xs.length cap := by
  cases h with
  | mk A cap xs f h1 h2 => exact ⟨A, cap, rfl⟩
theorem RdT.stay {w w' : World} {v : Value} {xs : List Tr} (h : RdT w v xs) (hb : Below w.heap.size w w') : RdT w' v xs := by
  induction h with
  | mk A cap xs f h1 h2 ih =>
    refine .mk A cap xs f (fun i hi => ?_) ih
    obtain ⟨a, rfl, e2, e3, e4, e5⟩ := h1 i hi
    exact ⟨a, rfl, by have := hb.size; omega, (hb.cell (by rw [addr_addb]; exact e2)).trans e3, (hb.cell (by rw [addr_addb, addr_addb]; exact e2)).trans e4, (hb.cell (by rw [addr_addb, addr_addb]; exact e2)).trans e5⟩
theorem RdT.nil (w : World) (A : Option Addr) (cap : Nat) : RdT w (.slice A 0 cap) [] := .mk A cap [] (fun _ => .slice none 0 0) (fun i h => absurd h (by simp)) (fun i h => absurd h (by simp))
/-- One tree of a list, as the walk spells its cells. -/
theorem RdT.item {w : World} {A : Option Addr} {n cap : Nat} {xs : List Tr} (h : RdT w (.slice A n cap) xs) {i : Nat} (hi : i < xs.length) : ∃ a B m bc, A = some a ∧ a.block < w.heap.size ∧ w.cell? (a.add (i * 3)) = some (.int .i64 xs[i].k) ∧ w.cell? ⟨(a.add (i * 3)).block, (a.add (i * 3)).off + 1, none⟩ = some (.int .i32 xs[i].n) ∧ w.cell? ⟨(a.add (i * 3)).block, (a.add (i * 3)).off + 2, none⟩ = some (.slice B m bc) ∧ RdT w (.slice B m bc) xs[i].kids ∧ m = xs[i].kids.length := by
  generalize hv : Value.slice A n cap = v at h
  cases h with
  | mk A3 c3 xs f h1 h2 =>
    injection hv with e1 e2 e3
    subst e1
    obtain ⟨a, rfl, hb, q0, q1, q2⟩ := h1 i hi
    have r := h2 i hi
    obtain ⟨B, bc, hf⟩ := r.form
    rw [hf] at q2 r
    exact ⟨a, B, _, bc, rfl, hb, q0, q1, q2, r, rfl⟩
theorem RdT.len {w : World} {A : Option Addr} {n cap : Nat} {xs : List Tr} (h : RdT w (.slice A n cap) xs) : n = xs.length := by
  obtain ⟨A2, c2, e⟩ := h.form
  injection e
/-- A list of trees that is a call's own: rows above base, no two of them one; all their blocks are in S. -/
inductive OwnT (w : World) (base : Nat) : Value → List Tr → (Nat → Prop) → Prop
  | mk (v : Value) (xs : List Tr) (S : Nat → Prop) (f : Nat → Value) (bs : Nat → Nat → Prop)
    (h1 : w.ownsRow base 77 3 v xs.length (trv f 0 xs))
    (h2 : ∀ i (h : i < xs.length), OwnT w base (f i) xs[i].kids (bs i))
    (d1 : ∀ g, v.ownBlock = some g → ∀ i, i < xs.length → ¬ bs i g)
    (d2 : ∀ i j g, i < xs.length → j < xs.length → i ≠ j → bs i g → ¬ bs j g)
    (hS : ∀ g, (v.ownBlock = some g ∨ ∃ i, i < xs.length ∧ bs i g) → S g)
    (hb : ∀ g, S g → base ≤ g ∧ g < w.heap.size) : OwnT w base v xs S
/-- The parts of a list of trees that is a call's own. -/
structure PartsT (w : World) (base : Nat) (v : Value) (xs : List Tr) (S : Nat → Prop) (f : Nat → Value) (bs : Nat → Nat → Prop) : Prop where
  row : w.ownsRow base 77 3 v xs.length (trv f 0 xs)
  kids : ∀ i (h : i < xs.length), OwnT w base (f i) xs[i].kids (bs i)
  d1 : ∀ g, v.ownBlock = some g → ∀ i, i < xs.length → ¬ bs i g
  d2 : ∀ i j g, i < xs.length → j < xs.length → i ≠ j → bs i g → ¬ bs j g
  sub : ∀ g, (v.ownBlock = some g ∨ ∃ i, i < xs.length ∧ bs i g) → S g
  bound : ∀ g, S g → base ≤ g ∧ g < w.heap.size
theorem OwnT.parts {w : World} {base : Nat} {v : Value} {xs : List Tr} {S : Nat → Prop} (h : OwnT w base v xs S) : ∃ f bs, PartsT w base v xs S f bs := by
  cases h with
  | mk v xs S f bs h1 h2 d1 d2 hS hb => exact ⟨f, bs, h1, h2, d1, d2, hS, hb⟩
theorem PartsT.own {w : World} {base : Nat} {v : Value} {xs : List Tr} {S : Nat → Prop} {f : Nat → Value} {bs : Nat → Nat → Prop} (h : PartsT w base v xs S f bs) : OwnT w base v xs S := .mk v xs S f bs h.row h.kids h.d1 h.d2 h.sub h.bound
theorem row_same {w w' : World} {base size : Nat} {e : TypeId} {v : Value} {n : Nat} {xs : List Value} (h : w.ownsRow base e size v n xs) (hk : ∀ g, v.ownBlock = some g → w'.heap[g]? = w.heap[g]?) : w'.ownsRow base e size v n xs := by
  refine ⟨h.1, ?_⟩
  rcases h.2 with hn | ⟨g, cap, cur, rfl, hb, hgg, rest⟩
  · exact .inl hn
  · refine .inr ⟨g, cap, cur, rfl, hb, ?_, rest⟩
    rw [hk g (by simp [Value.ownBlock])]
    exact hgg
theorem OwnT.kept {w w' : World} {base : Nat} {v : Value} {xs : List Tr} {S : Nat → Prop} (h : OwnT w base v xs S) (hz : w.heap.size ≤ w'.heap.size) (hk : ∀ g, S g → w'.heap[g]? = w.heap[g]?) : OwnT w' base v xs S := by
  induction h with
  | mk v xs S f bs h1 h2 d1 d2 hS hb ih =>
    exact .mk v xs S f bs (row_same h1 fun g hg => hk g (hS g (.inl hg))) (fun i hi => ih i hi (fun g hg => hk g (hS g (.inr ⟨i, hi, hg⟩)))) d1 d2 hS (fun g hg => ⟨(hb g hg).1, Nat.lt_of_lt_of_le (hb g hg).2 hz⟩)
theorem OwnT.bound {w : World} {base : Nat} {v : Value} {xs : List Tr} {S : Nat → Prop} (h : OwnT w base v xs S) : ∀ g, S g → base ≤ g ∧ g < w.heap.size := by
  obtain ⟨f, bs, p⟩ := h.parts
  exact p.bound
theorem OwnT.stay {w w' : World} {base : Nat} {v : Value} {xs : List Tr} {S : Nat → Prop} (h : OwnT w base v xs S) (hb : Below w.heap.size w w') : OwnT w' base v xs S := h.kept hb.size (fun g hg => hb.block g (h.bound g hg).2)
theorem OwnT.mono {w : World} {base b2 : Nat} {v : Value} {xs : List Tr} {S : Nat → Prop} (h : OwnT w base v xs S) (hb : b2 ≤ base) : OwnT w b2 v xs S := by
  induction h with
  | mk v xs S f bs h1 h2 d1 d2 hS hb2 ih => exact .mk v xs S f bs (h1.mono hb) ih d1 d2 hS (fun g hg => ⟨Nat.le_trans hb (hb2 g hg).1, (hb2 g hg).2⟩)
theorem OwnT.nil (w : World) (base : Nat) : OwnT w base (.slice none 0 0) [] (fun _ => False) :=
  .mk _ [] _ (fun _ => .slice none 0 0) (fun _ _ => False) (World.ownsRow_nil _ _ _ _) (fun i h => absurd h (by simp)) (fun g h => by simp [Value.ownBlock] at h) (fun i j g h => absurd h (by simp)) (fun g h => by
    rcases h with h | ⟨i, hi, -⟩
    · simp [Value.ownBlock] at h
    · simp at hi) (fun g h => h.elim)
/-- Room for none. -/
theorem OwnT.empty {w : World} {base : Nat} {v : Value} (h : w.ownsRow base 77 3 v 0 []) : OwnT w base v [] (fun g => v.ownBlock = some g) :=
  .mk _ [] _ (fun _ => .slice none 0 0) (fun _ _ => False) h (fun i h => absurd h (by simp)) (fun g hg i h => absurd h (by simp)) (fun i j g h => absurd h (by simp)) (fun g hg => by
    rcases hg with hg | ⟨i, hi, -⟩
    · exact hg
    · simp at hi) (fun g hg => World.ownsRow.lt h g hg)
theorem OwnT.rd {w : World} {base : Nat} {v : Value} {xs : List Tr} {S : Nat → Prop} (h : OwnT w base v xs S) : RdT w v xs := by
  induction h with
  | mk v xs S f bs h1 h2 d1 d2 hS hb ih =>
    rcases h1.2 with ⟨rfl, h0⟩ | ⟨g, cap, cur, rfl, hbg, hg, hn, hm, hsz, ht⟩
    · obtain rfl : xs = [] := List.eq_nil_of_length_eq_zero h0
      exact RdT.nil w none 0
    · refine .mk (some ⟨g, 0, none⟩) cap xs f (fun i hi => ⟨⟨g, 0, none⟩, rfl, (Array.getElem?_eq_some_iff.1 hg).1, ?_, ?_, ?_⟩) ih
      all_goals
        have h3 := trv_get (f := f) (i0 := 0) hi
        rw [Nat.zero_add] at h3
      · rw [addr_lit, Nat.zero_add, cell_of_row w g (i * 3) cur _ (0, 0) hg]
        have e := congrArg (·[i * 3]?) ht
        simp only [h3.1, List.getElem?_take] at e
        rw [if_pos (by omega)] at e
        simpa using e
      · rw [addr_lit, Nat.zero_add, addr_lit, cell_of_row w g (i * 3 + 1) cur _ (0, 0) hg]
        have e := congrArg (·[i * 3 + 1]?) ht
        simp only [h3.2.1, List.getElem?_take] at e
        rw [if_pos (by omega)] at e
        simpa using e
      · rw [addr_lit, Nat.zero_add, addr_lit, cell_of_row w g (i * 3 + 2) cur _ (0, 0) hg]
        have e := congrArg (·[i * 3 + 2]?) ht
        simp only [h3.2.2, List.getElem?_take] at e
        rw [if_pos (by omega)] at e
        simpa using e
/-- One more tree behind a list, whose row lies where it lay or in new memory. -/
theorem PartsT.push {W w' : World} {base : Nat} {v v' kv : Value} {xs kids : List Tr} {S S2 : Nat → Prop} {f : Nat → Value} {bs : Nat → Nat → Prop} {k n : Int} (h : PartsT W base v xs S f bs) (hk : OwnT W base kv kids S2) (hd : ∀ g, S g → ¬ S2 g)
    (ho : w'.ownsRow base 77 3 v' (xs.length + 1) (trv f 0 xs ++ [.int .i64 k, .int .i32 n, kv])) (ha : AppAlt W w' v v' xs.length 1) : OwnT w' base v' (xs ++ [.mk k n kids]) (fun g => S g ∨ S2 g ∨ v'.ownBlock = some g) := by
  have hgr := ha.grown
  have hsame : ∀ g, v.ownBlock ≠ some g → g < W.heap.size → w'.heap[g]? = W.heap[g]? := fun g hg hlt => hgr.block g hlt (fun e => hg e.symm)
  have hz := hgr.size
  have hv' : ∀ g, v'.ownBlock = some g → v.ownBlock = some g ∨ W.heap.size ≤ g := fun g hg => by
    rcases ha with ⟨g2, cap, rfl, -, rfl, -⟩ | ⟨-, h2⟩
    · left; simpa [Value.ownBlock] using hg
    · right; exact h2 g hg
  have hbs : ∀ i, i < xs.length → ∀ g, bs i g → S g := fun i hi g hg => h.sub g (.inr ⟨i, hi, hg⟩)
  refine .mk v' _ _ (fun i => if i < xs.length then f i else kv) (fun i => if i < xs.length then bs i else S2) ?_ (fun i hi => ?_) (fun g hg i hi => ?_) (fun i j g hi hj hij hgi => ?_) (fun g hg => ?_) (fun g hg => ?_)
  · have e : trv (fun i => if i < xs.length then f i else kv) 0 (xs ++ [.mk k n kids]) = trv f 0 xs ++ [.int .i64 k, .int .i32 n, kv] := by
      rw [trv_app, Nat.zero_add]
      simp only [trv, Nat.lt_irrefl, if_false, Tr.k, Tr.n]
      rw [trv_congr (f2 := f) (fun j hj => by rw [Nat.zero_add, if_pos hj])]
    rw [e, List.length_append]
    exact ho
  · by_cases hl : i < xs.length
    · simp only [if_pos hl, List.getElem_append_left hl]
      exact (h.kids i hl).kept hz (fun g hg => hsame g (fun e => h.d1 g e i hl hg) (h.bound g (hbs i hl g hg)).2)
    · obtain rfl : i = xs.length := by simp at hi; omega
      simp only [Nat.lt_irrefl, if_false, List.getElem_append_right (Nat.le_refl _), Nat.sub_self, List.getElem_cons_zero, Tr.kids]
      exact hk.kept hz (fun g hg => hsame g (fun e => hd g (h.sub g (.inl e)) hg) (hk.bound g hg).2)
  · by_cases hl : i < xs.length
    · simp only [if_pos hl]
      intro hgi
      rcases hv' g hg with e | e
      · exact h.d1 g e i hl hgi
      · have := (h.bound g (hbs i hl g hgi)).2; omega
    · simp only [if_neg hl]
      intro hgi
      rcases hv' g hg with e | e
      · exact hd g (h.sub g (.inl e)) hgi
      · have := (hk.bound g hgi).2; omega
  · simp only [List.length_append, List.length_cons, List.length_nil] at hi hj
    by_cases hl : i < xs.length
    · simp only [if_pos hl] at hgi
      by_cases hl2 : j < xs.length
      · simp only [if_pos hl2]; exact h.d2 i j g hl hl2 hij hgi
      · simp only [if_neg hl2]; exact hd g (hbs i hl g hgi)
    · simp only [if_neg hl] at hgi
      by_cases hl2 : j < xs.length
      · simp only [if_pos hl2]; exact fun h3 => hd g (hbs j hl2 g h3) hgi
      · omega
  · rcases hg with hg | ⟨i, hi, hgi⟩
    · exact .inr (.inr hg)
    · by_cases hl : i < xs.length
      · simp only [if_pos hl] at hgi; exact .inl (hbs i hl g hgi)
      · simp only [if_neg hl] at hgi; exact .inr (.inl hgi)
  · rcases hg with hg | hg | hg
    · have := h.bound g hg; exact ⟨this.1, by omega⟩
    · have := hk.bound g hg; exact ⟨this.1, by omega⟩
    · exact World.ownsRow.lt ho g hg
end Go.Proofs.Ytofikgjoiidhmaa

namespace Go.Proofs.Ytofikgjoiidhmaa
open Go.RowKit Go

/-- Only blocks of S have changed. -/
structure ChgS (S : Nat → Prop) (w w' : World) : Prop where
  os : w'.os = w.os
  tape : w'.tape = w.tape
  output : w'.output = w.output
  size : w.heap.size ≤ w'.heap.size
  block : ∀ g, g < w.heap.size → ¬ S g → w'.heap[g]? = w.heap[g]?
theorem ChgS.refl (S : Nat → Prop) (w : World) : ChgS S w w := ⟨rfl, rfl, rfl, Nat.le_refl _, fun _ _ _ => rfl⟩
theorem ChgS.trans {S : Nat → Prop} {a b c : World} (h : ChgS S a b) (k : ChgS S b c) : ChgS S a c :=
  ⟨k.os.trans h.os, k.tape.trans h.tape, k.output.trans h.output, Nat.le_trans h.size k.size, fun g hg hn => (k.block g (Nat.lt_of_lt_of_le hg h.size) hn).trans (h.block g hg hn)⟩
theorem ChgS.mono {S S2 : Nat → Prop} {a b : World} (h : ChgS S a b) (hs : ∀ g, S g → S2 g) : ChgS S2 a b :=
  ⟨h.os, h.tape, h.output, h.size, fun g hg hn => h.block g hg (fun e => hn (hs g e))⟩
theorem ChgS.below {S : Nat → Prop} {a b : World} {B : Nat} (h : ChgS S a b) (hs : ∀ g, S g → B ≤ g) (hB : B ≤ a.heap.size) : Below B a b :=
  ⟨h.os, h.tape, h.output, h.size, fun g hg => h.block g (by omega) (fun e => by have := hs g e; omega)⟩
theorem ChgS.of_below {S : Nat → Prop} {a b : World} (h : Below a.heap.size a b) : ChgS S a b := ⟨h.os, h.tape, h.output, h.size, fun g hg _ => h.block g hg⟩
theorem trv_mid (f : Nat → Value) (i0 : Nat) {xs : List Tr} {i : Nat} (h : i < xs.length) (K N : Int) (c : List Tr) : ((trv f i0 xs).set (i * 3) (.int .i64 K)).set (i * 3 + 1) (.int .i32 N) = trv f i0 (xs.set i (.mk K N c)) := by
  induction xs generalizing i i0 with
  | nil => simp at h
  | cons s r ih =>
    cases i with
    | zero => simp [trv, Tr.k, Tr.n]
    | succ i =>
      have := ih (i0 + 1) (i := i) (by simpa using h)
      rw [show (i + 1) * 3 = i * 3 + 3 by omega, show i * 3 + 3 + 1 = i * 3 + 1 + 3 by omega]
      simpa [trv] using this
theorem PartsT.mark {wr w2 w3 : World} {base g cap : Nat} {xs c2 : List Tr} {S : Nat → Prop} {f : Nat → Value} {bs : Nat → Nat → Prop} {i : Nat} {K N : Int} (P : PartsT wr base (.slice (some ⟨g, 0, none⟩) xs.length cap) xs S f bs) (hi : i < xs.length)
    (hr : w2.ownsRow base 77 3 (.slice (some ⟨g, 0, none⟩) xs.length cap) xs.length (trv f 0 (xs.set i (.mk K N c2)))) (hg : wr.grownBy w2 (some g)) (ho : OwnT w3 base (f i) c2 (bs i)) (hc : ChgS (bs i) w2 w3) :
    PartsT w3 base (.slice (some ⟨g, 0, none⟩) xs.length cap) (xs.set i (.mk K N c2)) S f bs ∧ ChgS S wr w3 := by
  have hgo : (Value.slice (some ⟨g, 0, none⟩) xs.length cap).ownBlock = some g := by simp [Value.ownBlock]
  have hlt : g < w2.heap.size := (World.ownsRow.lt hr g hgo).2
  have hSg : S g := P.sub g (.inl hgo)
  have hSi : ∀ b, bs i b → S b := fun b hb => P.sub b (.inr ⟨i, hi, hb⟩)
  have hz := hg.size
  refine ⟨⟨?_, fun j hj => ?_, fun b hb j hj => P.d1 b hb j (by simpa using hj), fun j l b hj hl => P.d2 j l b (by simpa using hj) (by simpa using hl), fun b hb => P.sub b ?_, fun b hb => ⟨(P.bound b hb).1, by have := (P.bound b hb).2; have := hc.size; omega⟩⟩, ?_⟩
  · rw [List.length_set]
    exact row_same hr (fun b hb => by
      have hb' := hb
      rw [hgo] at hb'
      injection hb' with hb'
      subst hb'
      exact hc.block g hlt (P.d1 g hb i hi))
  · have hj' : j < xs.length := by simpa using hj
    by_cases hij : i = j
    · subst hij
      simp only [List.getElem_set_self, Tr.kids]
      exact ho
    · simp only [List.getElem_set_ne hij]
      refine ((P.kids j hj').kept hz (fun b hb => ?_)).kept hc.size (fun b hb => ?_)
      · exact hg.block b (P.bound b (P.sub b (.inr ⟨j, hj', hb⟩))).2 (fun e => by injection e with e; subst e; exact P.d1 _ hgo j hj' hb)
      · exact hc.block b (by have := (P.bound b (P.sub b (.inr ⟨j, hj', hb⟩))).2; omega) (fun e => P.d2 j i b hj' hi (fun e2 => hij e2.symm) hb e)
  · rcases hb with hb | ⟨j, hj, hb⟩
    · exact .inl hb
    · exact .inr ⟨j, by simpa using hj, hb⟩
  · refine ChgS.trans (b := w2) ⟨hg.os, hg.tape, hg.output, hz, fun b hb hn => hg.block b hb (fun e => by injection e with e; subst e; exact hn hSg)⟩ (hc.mono hSi)
end Go.Proofs.Ytofikgjoiidhmaa
