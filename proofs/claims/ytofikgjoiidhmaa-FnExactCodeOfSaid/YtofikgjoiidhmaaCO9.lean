/-
  Definitions that are a call's own: their size, a copy of them, the marks that are laid into them.
  spec.l11Wide.
-/
import Derived.Test.YtofikgjoiidhmaaCO2
import Derived.Test.YtofikgjoiidhmaaCO8
import Derived.Test.YtofikgjoiidhmaaCO3
import Derived.Handy
import Derived.IntWalk
namespace Go.Proofs.Ytofikgjoiidhmaa
open Go.RowKit Go

/-- Definitions that are a call's own, above base. -/
def OwnD (w : World) (base : Nat) (v : Value) (ds : List Df) : Prop :=
  ∃ ps : List (ByteArray × Value), ∃ hl : ps.length = ds.length, w.ownsRow base 52 2 v ds.length (dfv ps) ∧ (∀ j (h : j < ps.length) (h2 : j < ds.length), ps[j].1 = ds[j].1 ∧ w.ownsRow base 75 2 ps[j].2 ds[j].2.length (slv ds[j].2)) ∧ ∀ j l, (hj : j < l) → (h : l < ps.length) → ∀ k, (ps[j]'(by omega)).2.ownBlock = some k → ps[l].2.ownBlock ≠ some k
theorem OwnD.below {w w' : World} {base : Nat} {v : Value} {ds : List Df} (h : OwnD w base v ds) (hb : Below w.heap.size w w') : OwnD w' base v ds := by
  obtain ⟨ps, hl, h1, h2, h3⟩ := h
  have key : ∀ {b size n : Nat} {e : TypeId} {u : Value} {xs : List Value}, w.ownsRow b e size u n xs → w'.ownsRow b e size u n xs := fun ho => row_sameM ho (fun k hk => hb.block k (World.ownsRow.lt ho k hk).2)
  exact ⟨ps, hl, key h1, fun j h h4 => ⟨(h2 j h h4).1, key (h2 j h h4).2⟩, h3⟩
theorem OwnD.rdc {w : World} {base : Nat} {v : Value} {ds : List Df} (h : OwnD w base v ds) (hx : ∀ d ∈ ds, d.2.length ≤ 1048576) : RdDc w v ds := by
  obtain ⟨ps, hl, h1, h2, -⟩ := h
  obtain ⟨A, cap, rfl⟩ := own_formM h1
  refine ⟨A, cap, rfl, fun i hi => ?_⟩
  obtain ⟨q, cp, e, hc, hq, -⟩ := own_posM h1 (by omega)
  injection e with e1 e2 e3
  subst e1 e3
  have hip : i < ps.length := by omega
  refine ⟨⟨q, 0, none⟩, ps[i].2, rfl, hq, ?_, ?_, ?_⟩
  · have h3 := h1.cellAt (i * 2) (by omega)
    rw [dfv_get0 hip] at h3
    rw [addr_lit, Nat.zero_add, h3, (h2 i hip hi).1]
  · have h3 := h1.cellAt (i * 2 + 1) (by omega)
    rw [dfv_get1 hip] at h3
    rw [addr_lit, Nat.zero_add, addr_lit, h3]
  · have ho := (h2 i hip hi).2
    refine ⟨RdS.of_own ho (by have := hx _ (List.getElem_mem hi); omega), ?_⟩
    rcases ho.2 with ⟨e, h0⟩ | ⟨g, cap, cur, e, hb, hg, hn, -⟩
    · exact ⟨none, 0, by rw [e, h0], by omega⟩
    · exact ⟨_, cap, e, hn⟩
/-- The lengths of the first bodies, together. -/
def bsum (f : Nat → ByteArray × Option Addr × Nat × Nat) : Nat → Nat | 0 => 0 | i + 1 => bsum f i + (f i).2.2.1
set_option maxHeartbeats 1000000 in
/-- How much is left behind a body. -/
theorem sz_ops2 (A : Option Addr) (n cap : Nat) (left : Int) (h0 : 0 ≤ left) (h1 : left ≤ 1048576) (hn : n ≤ 9223372036854775807) (w : World) : Calls Try.prog 38 #[.slice A n cap, .int .i64 left] w fun e w' => (∃ z, e = .returned (.int .i64 z) ∧ (z = -1 ∨ (0 ≤ z ∧ z ≤ left - (n : Int) ∧ n ≤ 1048576))) ∧ Below w.heap.size w w' := by
  by_cases hl : (n : Int) ≤ left
  · have hz : ¬ (left - (n : Int)) < 0 := by omega
    have HE : Hid (0 ≤ left - (n : Int) ∧ left - (n : Int) ≤ left - (n : Int) ∧ n ≤ 1048576) := Lib.hid (by omega)
    go_enter Try.func38, Try.ntmps38
    go_wp2_with fail
    go_ret
    exact ⟨⟨_, rfl, .inr HE.out⟩, by go_grown⟩
  · have hz : (left - (n : Int)) < 0 := by omega
    have hz2 : (n : Int) ≤ 9223372036854775807 := by omega
    have hz3 : left < (n : Int) := by omega
    go_enter Try.func38, Try.ntmps38
    go_wp2_with fail
    go_ret
    exact ⟨⟨_, rfl, .inl rfl⟩, by go_grown⟩
set_option maxHeartbeats 2000000 in
theorem sz_def2 (nm : ByteArray) (A : Option Addr) (n cap : Nat) (left : Int) (h0 : 0 ≤ left) (h1 : left ≤ 1048576) (hs : nm.size ≤ 9223372036854775807) (hn : n ≤ 9223372036854775807) (w : World) : Calls Try.prog 21 #[.agg #[.string nm, .slice A n cap], .int .i64 left] w fun e w' => (∃ z, e = .returned (.int .i64 z) ∧ (z = -1 ∨ (0 ≤ z ∧ z ≤ left - (n : Int) ∧ nm.size ≤ 1048576 ∧ n ≤ 1048576))) ∧ Below w.heap.size w w' := by
  obtain ⟨m, hm⟩ : ∃ m, nm.size = m := ⟨_, rfl⟩
  by_cases hl : (nm.size : Int) ≤ left
  · have hz : ¬ (left - (nm.size : Int)) < 0 := by omega
    have HC := Lib.hid (fun W => sz_ops2 A n cap (left - (nm.size : Int)) (by omega) (by omega) hn W)
    have HLE : Hid (nm.size ≤ 1048576) := Lib.hid (by omega)
    have HBX := Lib.hid (below_alloc1 w (.cells #[.string nm, .slice A n cap] 45))
    clear hm hn hs h0
    go_enter Try.func21, Try.ntmps21
    go_wp2_with fail
    refine (HC.out _).mono ?_
    rintro e w2 ⟨⟨z, rfl, rfl | ⟨g1, g2, g3⟩⟩, hb2⟩
    · have HB2 := Lib.hid (HBX.out.trans (hb2.mono HBX.out.size))
      clear hb2
      go_wp2_with fail
      go_ret
      exact ⟨⟨_, rfl, .inl rfl⟩, HB2.out⟩
    · have HB2 := Lib.hid (HBX.out.trans (hb2.mono HBX.out.size))
      have hz2 : ¬ z < 0 := by omega
      have HE : Hid (0 ≤ z ∧ z ≤ left - (n : Int) ∧ nm.size ≤ 1048576 ∧ n ≤ 1048576) := Lib.hid ⟨g1, by omega, HLE.out, g3⟩
      clear hb2 g1 g2 g3
      go_wp2_with fail
      go_ret
      exact ⟨⟨_, rfl, .inr HE.out⟩, HB2.out⟩
  · have hz : (left - (nm.size : Int)) < 0 := by omega
    have hz3 : left < (nm.size : Int) := by omega
    have hz2 : (nm.size : Int) ≤ 9223372036854775807 := by omega
    clear hm hn
    go_enter Try.func21, Try.ntmps21
    go_wp2_with fail
    go_ret
    exact ⟨⟨_, rfl, .inl rfl⟩, by go_grown⟩
set_option maxHeartbeats 4000000 in
theorem sz_defs2 (A : Option Addr) (N cap : Nat) (hN : N ≤ 9223372036854775807) (f : Nat → ByteArray × Option Addr × Nat × Nat) (w : World) (hf : ∀ i, i < N → ∃ a, A = some a ∧ a.block < w.heap.size ∧ w.cell? (a.add (i * 2)) = some (.string (f i).1) ∧ w.cell? ((a.add (i * 2)).add 1) = some (.slice (f i).2.1 (f i).2.2.1 (f i).2.2.2) ∧ (f i).1.size ≤ 9223372036854775807 ∧ OpsIn w (f i).2.1 (f i).2.2.1 (f i).2.2.2) :
    Calls Try.prog 5 #[.slice A N cap, .int .i64 1048576] w fun e w' => (∃ z, e = .returned (.int .i64 z) ∧ (z = -1 ∨ (0 ≤ z ∧ N ≤ 1048576 ∧ N + bsum f N ≤ 1048576 ∧ ∀ i, i < N → (f i).1.size ≤ 1048576 ∧ (f i).2.2.1 ≤ 1048576))) ∧ Below w.heap.size w w' := by
  by_cases hl : N ≤ 1048576
  · have HF := Lib.hid hf
    have hz : ¬ (1048576 - (N : Int)) < 0 := by omega
    have hz2 : (N : Int) ≤ 1048576 := by omega
    clear hf hN
    go_enter Try.func5, Try.ntmps5
    go_wp2_with fail
    go_loopw [1, 5] (fun vl vi wr => ∃ (i : Nat) (left : Int), vi = .int .i64 i ∧ vl = .int .i64 left ∧ i ≤ N ∧ 0 ≤ left ∧ left ≤ 1048576 ∧ Hid (left + (bsum f i : Int) + (N : Int) ≤ 1048576) ∧ Hid (∀ j, j < i → (f j).1.size ≤ 1048576 ∧ (f j).2.2.1 ≤ 1048576) ∧ Hid (Below w.heap.size w wr)) (fun _ vi _ => N - (intOf vi).toNat)
    case atStart => exact ⟨0, _, rfl, rfl, by omega, by omega, by omega, Lib.hid (by simp [bsum]), Lib.hid (fun j hj => by omega), Lib.hid (Below.refl _ _)⟩
    case round =>
      obtain ⟨i, left, rfl, rfl, hi, hl0, hl1, HBS, HS, HB⟩ := hrel
      by_cases hp : i < N
      · obtain ⟨a, rfl, la, p0, p1, q1, q2⟩ := HF.out i hp
        obtain ⟨fn, hfn⟩ : ∃ fn, f i = fn := ⟨_, rfl⟩
        obtain ⟨nm, B, m, bc⟩ := fn
        have HFN := Lib.hid hfn
        rw [hfn] at p0 p1 q1 q2
        have p0' : wr.cell? (a.add (i * 2)) = some (.string nm) := (HB.out.cell (by rw [addr_addb]; exact la)).trans p0
        have p1' : wr.cell? ⟨(a.add (i * 2)).block, (a.add (i * 2)).off + 1, none⟩ = some (.slice B m bc) := (HB.out.cell (p := ⟨(a.add (i * 2)).block, (a.add (i * 2)).off + 1, none⟩) (by show (a.add (i * 2)).block < _; rw [addr_addb]; exact la)).trans p1
        have HC := Lib.hid (fun W => sz_def2 nm B m bc left hl0 hl1 q1 q2.1 W)
        have i1 : (0 : Int) ≤ (i : Int) := by omega
        have i2 : (i : Int) < (N : Int) := by omega
        clear p0 p1 q1 q2 la hfn
        go_wp2_with fail
        refine (HC.out _).mono ?_
        rintro e w2 ⟨⟨z, rfl, rfl | ⟨g1, g2, g3, g4⟩⟩, hb2⟩
        · have HB2 := Lib.hid (HB.out.trans (hb2.mono HB.out.size))
          clear hb2 HB HS
          go_wp2_with fail
          go_ret
          exact ⟨⟨_, rfl, .inl rfl⟩, HB2.out⟩
        · have HB2 := Lib.hid (HB.out.trans (hb2.mono HB.out.size))
          have hz3 : ¬ z < 0 := by omega
          have HS2 : Hid (∀ j, j < i + 1 → (f j).1.size ≤ 1048576 ∧ (f j).2.2.1 ≤ 1048576) := Lib.hid (fun j hj => by
            by_cases hji : j < i
            · exact HS.out j hji
            · obtain rfl : j = i := by omega
              rw [HFN.out]
              exact ⟨g3, g4⟩)
          have HZ : Hid (0 ≤ z ∧ z ≤ 1048576) := Lib.hid (by omega)
          have HBS2 : Hid (z + (bsum f (i + 1) : Int) + (N : Int) ≤ 1048576) := Lib.hid (by have := HBS.out; simp only [bsum, HFN.out]; omega)
          clear hb2 HB HS g1 g2 g3 g4
          go_wp2_with fail
          go_roundw
          case rel => exact ⟨i + 1, z, by go_num, rfl, by omega, HZ.out.1, HZ.out.2, HBS2, HS2, HB2⟩
          case measure => simp [intOf]; omega
      · obtain rfl : i = N := by omega
        go_wp2_with fail
        go_ret
        exact ⟨⟨_, rfl, .inr ⟨hl0, hl, by have := HBS.out; omega, HS.out⟩⟩, HB.out⟩
  · have hz : (1048576 - (N : Int)) < 0 := by omega
    have hz3 : (1048576 : Int) < (N : Int) := by omega
    have hz2 : (N : Int) ≤ 9223372036854775807 := by omega
    clear hf
    go_enter Try.func5, Try.ntmps5
    go_wp2_with fail
    go_ret
    exact ⟨⟨_, rfl, .inl rfl⟩, by go_grown⟩
set_option maxHeartbeats 8000000 in
theorem toD_own (v : Value) (ds : List Df) (hs : SmD ds) (W : World) (ha : RdD W v ds) : Calls Try.prog 7 #[v] W (fun e w' => ∃ u, e = .returned u ∧ OwnD w' W.heap.size u ds ∧ Below W.heap.size W w') := by
  obtain ⟨i0, hi, hz0, hz1, hz2⟩ := info_parts infoD
  obtain ⟨A, ca, rfl⟩ := ha.form
  have HA := Lib.hid (fun w (h : Below W.heap.size W w) => ha.below h)
  have HSM := Lib.hid hs.2
  have hN := hs.1
  clear ha hs
  go_enter Try.func7, Try.ntmps7
  go_wp2_with (refine wpList_make_full _ rfl _ _ _ rfl W.heap.size 52 i0 (.agg #[.string ⟨#[]⟩, .slice none 0 0]) 2 Try.underlying28 hi hz0 hz1 .i64 .i64 _ _ ds.length rfl rfl rfl rfl (by rw [hz2]; omega) (by unfold maxLen; omega) (Nat.le_refl _) ?_; intro w1 hown hgr)
  have hb1 : Below W.heap.size W w1 := (Below.refl _ _).grown hgr (Nat.le_refl _) (fun k hk => by cases hk)
  have hown1 : w1.ownsRow W.heap.size 52 2 (.slice (some ⟨W.heap.size, 0, none⟩) ds.length ds.length) ds.length (dfv (([] : List (ByteArray × Value)) ++ zdf (ds.length - 0))) := by
    have e : (madeCells (Value.agg #[Value.string ⟨#[]⟩, Value.slice none 0 0]).cells (ds.length * 2)).toList = dfv (([] : List (ByteArray × Value)) ++ zdf (ds.length - 0)) := made_dfv _
    rw [e] at hown
    exact hown
  have HB1 := Lib.hid hb1
  have HOWN1 := Lib.hid hown1
  clear hown hgr hb1 hown1
  go_loopw [4] (fun vi wr => ∃ (i : Nat) (ps : List (ByteArray × Value)), vi = .int .i64 i ∧ i ≤ ds.length ∧ ps.length = i ∧ Hid (wr.ownsRow W.heap.size 52 2 (.slice (some ⟨W.heap.size, 0, none⟩) ds.length ds.length) ds.length (dfv (ps ++ zdf (ds.length - i)))) ∧ Hid (∀ j (h : j < ps.length) (h2 : j < ds.length), ps[j].1 = ds[j].1 ∧ wr.ownsRow (W.heap.size + 1) 75 2 ps[j].2 ds[j].2.length (slv ds[j].2)) ∧ Hid (∀ j l, (hj : j < l) → (h : l < ps.length) → ∀ k, (ps[j]'(by omega)).2.ownBlock = some k → ps[l].2.ownBlock ≠ some k) ∧ Hid (Below W.heap.size W wr)) (fun vi _ => ds.length - (intOf vi).toNat)
  case atStart => exact ⟨0, [], rfl, by omega, rfl, HOWN1, Lib.hid (fun j h => by simp at h), Lib.hid (fun j l hj h => by simp at h), HB1⟩
  case round =>
    clear HOWN1 HB1
    obtain ⟨i, ps, rfl, hi2, hpl, HO, HP, HDJ, HB⟩ := hrel
    by_cases hp : i < ds.length
    · obtain ⟨ga, B, m, c, rfl, -, c0, c1, r0, em⟩ := (HA.out wr HB.out).item hp
      obtain ⟨x, hx'⟩ : ∃ x, ds[i] = x := ⟨_, rfl⟩
      obtain ⟨nm, xs⟩ := x
      have HX := Lib.hid hx'
      have hxl := (HSM.out ds[i] (List.getElem_mem hp)).2.1
      rw [hx'] at c0 r0 em hxl
      simp only at c0 r0 em hxl
      have HC := Lib.hid (to_def nm B m c xs hxl wr r0)
      have HPL := Lib.hid hpl
      have i1 : (0 : Int) ≤ (i : Int) := by omega
      have i2 : (i : Int) < (ds.length : Int) := by omega
      clear hx' r0 em hxl hpl
      go_wp2_with fail
      refine HC.out.mono ?_
      rintro e w2 ⟨vb, rfl, hob, hb2⟩
      obtain ⟨D, dc, rfl⟩ := own_formS hob
      have hsz : W.heap.size + 1 ≤ wr.heap.size := (World.ownsRow.lt HO.out W.heap.size (by simp [Value.ownBlock])).2
      have HB2 := Lib.hid (HB.out.trans (hb2.mono HB.out.size))
      have HO2 := Lib.hid (HO.out.kept (only_of_below hb2 none) (by simp [Value.ownBlock]))
      have HOB := Lib.hid (hob.mono hsz)
      have HNB : Hid (∀ k, (Value.slice D xs.length dc).ownBlock = some k → wr.heap.size ≤ k) := Lib.hid (fun k hk => (World.ownsRow.lt hob k hk).1)
      have HOL : Hid (∀ j (h : j < ps.length), ∀ k, ps[j].2.ownBlock = some k → k < wr.heap.size) := Lib.hid (fun j h k hk => (World.ownsRow.lt (HP.out j h (by have := HPL.out; omega)).2 k hk).2)
      have HP2 : Hid (∀ j (h : j < ps.length) (h2 : j < ds.length), ps[j].1 = ds[j].1 ∧ w2.ownsRow (W.heap.size + 1) 75 2 ps[j].2 ds[j].2.length (slv ds[j].2)) := Lib.hid (fun j h h2 => ⟨(HP.out j h h2).1, (HP.out j h h2).2.kept (only_of_below hb2 none) (by cases ps[j].2.ownBlock <;> simp)⟩)
      obtain ⟨u0, d0⟩ : ∃ u, w2.cell? ⟨W.heap.size, i * 2, none⟩ = some u := ⟨_, (HO2.out.cellAt (i * 2) (by omega)).trans (dfv_get0 (by simp [HPL.out]; omega))⟩
      obtain ⟨u1, d1⟩ : ∃ u, w2.cell? ⟨W.heap.size, i * 2 + 1, none⟩ = some u := ⟨_, (HO2.out.cellAt (i * 2 + 1) (by omega)).trans (dfv_get1 (by simp [HPL.out]; omega))⟩
      have f0 := HO2.out.frozenAt (i * 2)
      have f1 := HO2.out.frozenAt (i * 2 + 1)
      have s1 := HO2.out.stored (i * 2) (.string nm)
      have s2 := s1.1.stored (i * 2 + 1) (.slice D xs.length dc)
      have hs := s2.1
      have hcs := dfv_set (xs := ps ++ zdf (ds.length - i)) (i := i) (by simp [HPL.out]; omega) (nm, .slice D xs.length dc)
      rw [zdf_set HPL.out hp] at hcs
      simp only at hcs
      rw [hcs] at hs
      have HS := Lib.hid hs
      have HG2 := Lib.hid (only_trans s1.2 s2.2)
      clear s1 s2 hs HO HB hb2 hcs HO2 c0 c1 hob HP
      go_wp2_with fail
      go_roundw
      case rel => exact ⟨i + 1, ps ++ [(nm, .slice D xs.length dc)], by go_num, by omega, by rw [List.length_append, HPL.out]; rfl, HS, Lib.hid (fun j h h2 => by
        by_cases hj : j < ps.length
        · rw [List.getElem_append_left hj]
          refine ⟨(HP2.out j hj h2).1, (HP2.out j hj h2).2.kept HG2.out ?_⟩
          rcases hob2 : ps[j].2.ownBlock with _ | k
          · exact .inl rfl
          · refine .inr (fun e => ?_)
            have := (World.ownsRow.lt (HP2.out j hj h2).2 k hob2).1
            injection e with e
            omega
        · obtain rfl : j = i := by simp at h; have := HPL.out; omega
          have e1 : (ps ++ [(nm, Value.slice D xs.length dc)])[j]'h = (nm, Value.slice D xs.length dc) := by
            rw [List.getElem_append_right (by have := HPL.out; omega)]
            simp [HPL.out]
          rw [e1, HX.out]
          refine ⟨rfl, HOB.out.kept HG2.out ?_⟩
          rcases hob2 : (Value.slice D xs.length dc).ownBlock with _ | k
          · exact .inl rfl
          · refine .inr (fun e => ?_)
            have := (World.ownsRow.lt HOB.out k hob2).1
            injection e with e
            omega), Lib.hid (fun j l hjl h k hk => by
        have hl : l < ps.length ∨ l = ps.length := by simp at h; omega
        rcases hl with hl | hl
        · rw [List.getElem_append_left (by omega)] at hk
          rw [List.getElem_append_left hl]
          exact HDJ.out j l hjl hl k hk
        · subst hl
          rw [List.getElem_append_left (by omega)] at hk
          have h1 := HOL.out j hjl k hk
          intro e
          have e2 : (ps ++ [(nm, Value.slice D xs.length dc)])[ps.length]'h = (nm, Value.slice D xs.length dc) := by
            rw [List.getElem_append_right (Nat.le_refl _)]
            simp
          rw [e2] at e
          have := HNB.out k e
          omega), Lib.hid (HB2.out.grown HG2.out HB2.out.size (fun k hk => by injection hk with hk; omega))⟩
      case measure => simp [intOf]; omega
    · obtain rfl : i = ds.length := by omega
      have HPL := Lib.hid hpl
      have HRES : Hid (OwnD wr W.heap.size (.slice (some ⟨W.heap.size, 0, none⟩) ds.length ds.length) ds) := Lib.hid ⟨ps, HPL.out, by have := HO.out; rw [Nat.sub_self] at this; simpa [zdf] using this, fun j h h2 => ⟨(HP.out j h h2).1, (HP.out j h h2).2.mono (by omega)⟩, fun j l hj h k hk => HDJ.out j l hj h k hk⟩
      clear HO HP hpl HDJ
      go_wp2_with fail
      go_ret
      exact ⟨_, rfl, HRES.out, HB.out⟩
/-- How many places the first definitions have for marks, from place 1 on. -/
def dsum : List Df → Nat → Nat | _, 0 => 0 | [], _ + 1 => 0 | d :: r, i + 1 => d.2.length + dsum r i
theorem dsum_succ : ∀ {ds : List Df} {i : Nat} (h : i < ds.length), dsum ds (i + 1) = dsum ds i + ds[i].2.length := by
  intro ds
  induction ds with
  | nil => intro i h; simp at h
  | cons d r ih =>
    intro i h
    cases i with
    | zero => cases r <;> simp [dsum]
    | succ i =>
      have := ih (i := i) (by simpa using h)
      simp only [dsum, this, List.getElem_cons_succ]
      omega
theorem dsum_le : ∀ (ds : List Df) (i : Nat), dsum ds i ≤ dsum ds ds.length := by
  intro ds
  induction ds with
  | nil => intro i; cases i <;> simp [dsum]
  | cons d r ih =>
    intro i
    cases i with
    | zero => simp [dsum]
    | succ i => have := ih i; simp only [dsum, List.length_cons]; omega
set_option maxRecDepth 100000 in
set_option maxHeartbeats 4000000 in
theorem markD_any (ds : List Df) (base top : Nat) (v : Value) (hn : ds.length ≤ 1048576) (hsum : dsum ds ds.length ≤ 1048576) (w0 w : World) (h0 : OwnD w0 base v ds) (ht : w0.heap.size ≤ top) (hw : Below w0.heap.size w0 w) :
    Calls Try.prog 12 #[v, .int .i64 1] w fun e w' => (∃ q : Nat, e = .returned (.int .i64 (q : Int))) ∧ ChgS (fun g => base ≤ g ∧ g < top) w w' := by
  obtain ⟨ps, hpl, hrow0, hbod0, hdj⟩ := h0
  have key : ∀ {b size n : Nat} {e : TypeId} {u : Value} {xs : List Value}, w0.ownsRow b e size u n xs → w.ownsRow b e size u n xs := fun ho => row_sameM ho (fun k hk => hw.block k (World.ownsRow.lt ho k hk).2)
  have htop : ∀ {u : Value} {k size n : Nat} {e : TypeId} {xs : List Value}, w0.ownsRow base e size u n xs → u.ownBlock = some k → base ≤ k ∧ k < top := fun ho hk => by have := World.ownsRow.lt ho _ hk; omega
  have HROW := Lib.hid (key hrow0)
  have HT0 : Hid (∀ k, v.ownBlock = some k → base ≤ k ∧ k < top) := Lib.hid (fun k hk => htop hrow0 hk)
  have HTB : Hid (∀ j (h : j < ps.length), ∀ k, ps[j].2.ownBlock = some k → base ≤ k ∧ k < top) := Lib.hid (fun j h k hk => htop (hbod0 j h (by omega)).2 hk)
  have HBOD : Hid (∀ j (h : j < ps.length) (h2 : j < ds.length), w.ownsRow base 75 2 ps[j].2 ds[j].2.length (slv ds[j].2)) := Lib.hid (fun j h h2 => key (hbod0 j h h2).2)
  have HDJ : Hid (∀ j l, (hj : j < l) → (h : l < ps.length) → ∀ k, (ps[j]'(Nat.lt_trans hj h)).2.ownBlock = some k → ps[l].2.ownBlock ≠ some k) := Lib.hid (fun j l hj h k hk => hdj j l hj h k hk)
  have HDS := Lib.hid (fun i => dsum_le ds i)
  have HSUM := Lib.hid hsum
  have HLEN : Hid (∀ i (h : i < ds.length), ds[i].2.length ≤ 1048576) := Lib.hid (fun i h => by have h1 := dsum_succ h; have h2 := dsum_le ds (i + 1); omega)
  have HPL := Lib.hid hpl
  obtain ⟨A, cap, rfl⟩ := own_formM hrow0
  obtain ⟨N, hN⟩ : ∃ N, ds.length = N := ⟨_, rfl⟩
  have HN := Lib.hid hN
  rw [hN] at hn HROW HT0 ⊢
  clear hrow0 hbod0 hdj key htop hsum hpl hN ht hw
  go_enter Try.func12, Try.ntmps12
  go_wp2_with fail
  go_loopw [1, 5] (fun vk vi wr => ∃ (i kk : Nat), vi = .int .i64 i ∧ vk = .int .i64 kk ∧ i ≤ N ∧ (1 ≤ kk ∧ kk ≤ 4000000) ∧ Hid (kk = 1 + i + 2 * dsum ds i) ∧ Hid (∃ cs : List (ByteArray × Value), cs.map (·.2) = ps.map (·.2) ∧ wr.ownsRow base 52 2 (.slice A N cap) N (dfv cs)) ∧ Hid (∀ j (h : j < ps.length) (h2 : j < ds.length), i ≤ j → wr.ownsRow base 75 2 ps[j].2 ds[j].2.length (slv ds[j].2)) ∧ Hid (ChgS (fun g => base ≤ g ∧ g < top) w wr)) (fun _ vi _ => N - (intOf vi).toNat)
  case atStart => exact ⟨0, 1, rfl, rfl, by omega, by omega, Lib.hid (by cases ds <;> simp [dsum]), Lib.hid ⟨ps, rfl, HROW.out⟩, Lib.hid (fun j h h2 _ => HBOD.out j h h2), Lib.hid (ChgS.refl _ _)⟩
  case round =>
    clear HROW HBOD
    obtain ⟨i, kk, rfl, rfl, hi, ⟨hk1, hk2⟩, HKK, HR, HB, HC⟩ := hrel
    by_cases hp : i < N
    · have hp' : i < ds.length := by rw [HN.out]; exact hp
      have hps : i < ps.length := by rw [HPL.out]; exact hp'
      obtain ⟨cs, hcs, hro⟩ := HR.out
      have hcl : cs.length = ps.length := by have := congrArg List.length hcs; simpa using this
      have hci : (cs[i]'(by omega)).2 = ps[i].2 := by
        have := congrArg (·[i]?) hcs
        simp only [List.getElem?_map, List.getElem?_eq_getElem (show i < cs.length by omega), List.getElem?_eq_getElem hps, Option.map_some, Option.some.injEq] at this
        exact this
      obtain ⟨g, cp, ev, hcp, hg, -⟩ := own_posM hro (by omega)
      injection ev with e1 e2 e3
      subst e1 e3
      clear e2
      have hbi := HB.out i hps hp' (Nat.le_refl _)
      obtain ⟨D, dc, hD⟩ := own_formM hbi
      have hlen := HLEN.out i hp'
      have hds := dsum_succ hp'
      have hds2 := HDS.out (i + 1)
      have hsm := HSUM.out
      obtain ⟨m, hm⟩ : ∃ m, ds[i].2.length = m := ⟨_, rfl⟩
      rw [hm] at hlen hds hD
      have hkk := HKK.out
      have hk3 : kk + 1 + 2 * m ≤ 4000000 := by omega
      have HKK2 : Hid (kk + 1 + 2 * m = 1 + (i + 1) + 2 * dsum ds (i + 1)) := Lib.hid (by omega)
      have MK := Lib.hid (mark_any kk hk1 (by omega) wr)
      have hgS := HT0.out g rfl
      have hDS : ∀ k, (Value.slice D m dc).ownBlock = some k → base ≤ k ∧ k < top := fun k hk => HTB.out i hps k (by rw [hD]; exact hk)
      -- behind the text's call
      have AFT : Hid (∀ w2, Below wr.heap.size wr w2 → ∃ w3, w3 = w2.setCell ⟨g, i * 2, none⟩ (.string (mkT kk)) ∧ w2.frozen? ⟨g, i * 2, none⟩ = false ∧ (∃ u, w2.cell? ⟨g, i * 2, none⟩ = some u) ∧ w3.cell? ⟨g, i * 2 + 1, none⟩ = some (.slice D m dc) ∧ g < w2.heap.size ∧ (∃ cs2 : List (ByteArray × Value), cs2.map (·.2) = ps.map (·.2) ∧ w3.ownsRow base 52 2 (.slice (some ⟨g, 0, none⟩) N cap) N (dfv cs2)) ∧ (∀ j (h : j < ps.length) (h2 : j < ds.length), i ≤ j → w3.ownsRow base 75 2 ps[j].2 ds[j].2.length (slv ds[j].2)) ∧ ChgS (fun g => base ≤ g ∧ g < top) w w3) := Lib.hid (fun w2 hb2 => by
        have hro2 : w2.ownsRow base 52 2 (.slice (some ⟨g, 0, none⟩) N cap) N (dfv cs) := row_sameM hro (fun k hk => hb2.block k (World.ownsRow.lt hro k hk).2)
        have s1 := hro2.stored (i * 2) (.string (mkT kk))
        have hs1 := s1.1
        rw [dfv_set0 (by omega)] at hs1
        refine ⟨_, rfl, hro2.frozenAt (i * 2), ⟨_, (hro2.cellAt (i * 2) (by omega)).trans (dfv_get0 (by omega))⟩, ?_, by have := hb2.size; omega, ⟨_, ?_, hs1⟩, fun j h h2 hij => ?_, ?_⟩
        · rw [hs1.cellAt (i * 2 + 1) (by omega), dfv_get1 (by simp; omega), List.getElem_set_self, hci, hD]
        · rw [← hcs, List.map_set]
          refine List.ext_getElem? fun q => ?_
          rw [List.getElem?_set]
          split
          · rename_i hq
            subst hq
            rw [List.length_map, if_pos (by omega), List.getElem?_map, List.getElem?_eq_getElem (show i < cs.length by omega)]
            rfl
          · rfl
        · have hj := HB.out j h h2 hij
          refine row_sameM (row_sameM hj (fun k hk => hb2.block k (World.ownsRow.lt hj k hk).2)) (fun k hk => Below.heap_setCell w2 _ _ k (fun e => ?_))
          have e : k = g := e
          subst e
          exact types_neM hj hro (by decide) k hk rfl
        · exact HC.out.trans ((ChgS.of_below hb2).trans ⟨rfl, rfl, rfl, by rw [World.size_setCell]; exact Nat.le_refl _, fun q hq hnq => Below.heap_setCell w2 _ _ q (fun e => hnq (by have e : q = g := e; rw [e]; exact hgS))⟩))
      have HPI := Lib.hid hps
      have HDI := Lib.hid hp'
      have HDF : Hid ((ps[i]'HPI.out).2 = .slice D m dc ∧ (ds[i]'HDI.out).2.length = m) := Lib.hid ⟨hD, hm⟩
      have MO : Hid (∀ w3, w3.ownsRow base 75 2 (.slice D m dc) m (slv (ds[i]'HDI.out).2) → Calls Try.prog 33 #[.slice D m dc, .int .i64 ((kk + 1 : Nat) : Int)] w3 fun e w' => e = .returned (.int .i64 ((kk + 1 + 2 * m : Nat) : Int)) ∧ w3.grownBy w' (Value.slice D m dc).ownBlock) := Lib.hid (fun w3 h3 => by
        have hm2 : (ds[i]'HDI.out).2.length = m := hm
        have h4 := markS_any base (.slice D m dc) (ds[i]'HDI.out).2 (kk + 1) (by omega) (by omega) w3 (by rw [hm2]; exact h3)
        refine h4.mono ?_
        rintro e w' ⟨rfl, -, h5⟩
        exact ⟨by rw [hm2]; congr 2, h5⟩)
      have HDB := Lib.hid hDS
      have i1 : (0 : Int) ≤ (i : Int) := by omega
      have i2 : (i : Int) < (N : Int) := by omega
      clear hcs hro hcl hci hbi hD hlen hds hds2 hsm hm hkk hgS hDS HR HB HC HKK hps hp'
      go_wp2_with fail
      refine MK.out.mono ?_
      rintro e w2 ⟨rfl, hb2⟩
      obtain ⟨w3, hw3, f0, ⟨u0, c0⟩, c1, lg, hcs3, hb3, hc3⟩ := AFT.out w2 hb2
      rw [hw3] at c1
      have HW3 := Lib.hid hw3
      have HC3 := Lib.hid hcs3
      have HB3 := Lib.hid hb3
      have HG3 := Lib.hid hc3
      have wk : IntKind.i64.wrap ((kk : Int) + 1) = ((kk + 1 : Nat) : Int) := by rw [show (kk : Int) + 1 = ((kk + 1 : Nat) : Int) by omega]; exact IntWalk.i64_in _ (by omega)
      have MO2 := Lib.hid (MO.out w3 (by have := hb3 i HPI.out HDI.out (Nat.le_refl _); rw [HDF.out.1, HDF.out.2] at this; exact this))
      clear hw3 hcs3 hb3 hc3 hb2 MK AFT MO
      go_wp2_with fail
      rw [← HW3.out]
      refine MO2.out.mono ?_
      rintro e w4 ⟨rfl, hg4⟩
      have hn4 : ∀ k, (Value.slice D m dc).ownBlock = some k → base ≤ k ∧ k < top := HDB.out
      have HG4 : Hid (ChgS (fun g => base ≤ g ∧ g < top) w w4) := Lib.hid (HG3.out.trans ⟨hg4.os, hg4.tape, hg4.output, hg4.size, fun q hq hnq => hg4.block q hq (fun e => hnq (hn4 q e.symm))⟩)
      have hbi3 := HB3.out i HPI.out HDI.out (Nat.le_refl _)
      rw [HDF.out.1, HDF.out.2] at hbi3
      have HC4 : Hid (∃ cs : List (ByteArray × Value), cs.map (·.2) = ps.map (·.2) ∧ w4.ownsRow base 52 2 (.slice (some ⟨g, 0, none⟩) N cap) N (dfv cs)) := Lib.hid (by
        obtain ⟨cs3, h1, h2⟩ := HC3.out
        exact ⟨cs3, h1, row_sameM h2 (fun k hk => hg4.block k (World.ownsRow.lt h2 k hk).2 (fun e => types_neM h2 hbi3 (by decide) k hk e.symm))⟩)
      have HB4 : Hid (∀ j (h : j < ps.length) (h2 : j < ds.length), i + 1 ≤ j → w4.ownsRow base 75 2 ps[j].2 ds[j].2.length (slv ds[j].2)) := Lib.hid (fun j h h2 hij => by
        have hj := HB3.out j h h2 (by omega)
        exact row_sameM hj (fun k hk => hg4.block k (World.ownsRow.lt hj k hk).2 (fun e => HDJ.out i j (by omega) h k (by rw [HDF.out.1]; exact e.symm) hk)))
      clear hg4 hn4 hbi3 HC3 HB3 HG3 MO2 HW3 f0 c0 c1
      go_wp2_with fail
      go_roundw
      case rel => exact ⟨i + 1, kk + 1 + 2 * m, by go_num, rfl, by omega, by omega, HKK2, HC4, HB4, HG4⟩
      case measure => simp [intOf]; omega
    · obtain rfl : i = N := by omega
      go_wp2_with fail
      go_ret
      exact ⟨⟨kk, rfl⟩, HC.out⟩
end Go.Proofs.Ytofikgjoiidhmaa

namespace Go.Proofs.Ytofikgjoiidhmaa
open Go.RowKit Go

/-- The kind ahead of place i is a call's. -/
def pcAt (xs : List Tr) (i : Nat) : Bool := match i with | 0 => false | j + 1 => decide ((xs[j]?.map Tr.k) = some 2)
theorem wideL_take {tail : Bool} : ∀ {xs : List Tr} {i : Nat} {pc : Bool} (h : i < xs.length), wideL tail pc (xs.take (i + 1)) = wideL tail pc (xs.take i) + wideT tail (if i = 0 then pc else pcAt xs i) xs[i] := by
  intro xs
  induction xs with
  | nil => intro i pc h; simp at h
  | cons t r ih =>
    intro i pc h
    cases i with
    | zero => simp [wideL]
    | succ i =>
      have h2 : i < r.length := by simpa using h
      simp only [List.take_succ_cons, wideL, List.getElem_cons_succ]
      rw [ih h2, Nat.add_assoc]
      congr 3
      cases i with
      | zero => simp [pcAt]
      | succ i => simp [pcAt]
mutual
theorem wideT_size : ∀ (t : Tr) (tail pc : Bool), wideT tail pc t ≤ 2 * t.size
  | .mk k n c, tail, pc => by
    have := wideL_size c tail false
    rw [wideT, Tr.size]
    split
    · split <;> omega
    · split <;> omega
theorem wideL_size : ∀ (xs : List Tr) (tail pc : Bool), wideL tail pc xs ≤ 2 * sizeL xs
  | [], tail, pc => by simp [wideL]
  | t :: r, tail, pc => by
    have := wideT_size t tail pc
    have := wideL_size r tail (decide (t.k = 2))
    rw [wideL, sizeL]
    omega
end
theorem lfL_get {xs : List Tr} {i : Nat} (h : i < xs.length) (hl : lfL xs = true) : xs[i].lf = true := by
  induction xs generalizing i with
  | nil => simp at h
  | cons t r ih =>
    rw [lfL, Bool.and_eq_true] at hl
    cases i with
    | zero => exact hl.1
    | succ i => exact ih (by simpa using h) hl.2
theorem lf_kids {k n : Int} {c : List Tr} (h : (Tr.mk k n c).lf = true) : lfL c = true := by
  rw [Tr.lf] at h
  split at h
  · exact h
  · rw [Bool.and_eq_true, List.isEmpty_iff] at h
    rw [h.2]
    rfl
theorem lf_exit {n : Int} {c : List Tr} (h : (Tr.mk 8 n c).lf = true) : c = [] := by
  rw [Tr.lf, if_neg (by omega), Bool.and_eq_true, List.isEmpty_iff] at h
  exact h.2
theorem wideT_step (tail pc : Bool) (k n : Int) (c : List Tr) (h : (Tr.mk k n c).lf = true) : (wideT tail pc (.mk k n c) : Int) = 1 + (wideL tail false c : Int) + (if k = 6 then 1 else 0) - (if tail = true ∧ pc = true ∧ k = 8 then 1 else 0) := by
  rw [wideT]
  by_cases h8 : k = 8
  · subst h8
    have hc := lf_exit h
    subst hc
    cases tail <;> cases pc <;> simp [wideL]
  · rw [if_neg h8]
    simp only [h8, and_false, if_false]
    split <;> simp
set_option maxRecDepth 100000 in
set_option maxHeartbeats 8000000 in
theorem spec_wide (tail : Bool) : ∀ (M : Nat) (ts : List Tr), sizeL ts < M → sizeL ts ≤ 2000000 → lfL ts = true → ∀ (v : Value) (w : World), RdT w v ts →
    Calls Try.prog 23 #[v, .bool tail] w fun e w' => e = .returned (.int .i64 (wideL tail false ts : Int)) ∧ Below w.heap.size w w' := by
  intro M
  induction M with
  | zero => intro ts h; omega
  | succ M ih =>
    intro ts hM hz2m hlf v w hr
    obtain ⟨A, cap, rfl⟩ := hr.form
    have hlN : ts.length ≤ 2000000 := Nat.le_trans (sizeL_len ts) hz2m
    have HR := Lib.hid (fun W (h : Below w.heap.size w W) => hr.stay h)
    have HIH := Lib.hid (fun i (hi : i < ts.length) => ih ts[i].kids (by have := sizeL_get hi; omega) (by have := sizeL_get hi; omega))
    have HWT := Lib.hid (fun i (hi : i < ts.length) => wideL_take (tail := tail) (pc := false) hi)
    have HWS := Lib.hid (fun i => (show wideL tail false (ts.take i) ≤ 4000000 from by
      have h1 := wideL_size (ts.take i) tail false
      have h2 : sizeL (ts.take i) ≤ sizeL ts := by
        have := sizeL_app (ts.take i) (ts.drop i)
        rw [List.take_append_drop] at this
        omega
      omega))
    have HLF := Lib.hid (fun i (hi : i < ts.length) => lfL_get hi hlf)
    have HKS := Lib.hid (fun i (hi : i < ts.length) => (show wideL tail false ts[i].kids ≤ 4000000 from by have := wideL_size ts[i].kids tail false; have := sizeL_get hi; omega))
    have HTL : Hid (ts.take ts.length = ts) := Lib.hid List.take_length
    obtain ⟨N, hN⟩ : ∃ N, ts.length = N := ⟨_, rfl⟩
    have HN := Lib.hid hN
    rw [hN] at hlN ⊢
    rw [hN] at HR HTL
    clear hr ih hM hz2m hN hlf
    go_enter Try.func23, Try.ntmps23
    go_wp2_with fail
    go_loopw [5, 6] (fun vn vi wr => ∃ (i : Nat) (z : Int), vi = .int .i64 i ∧ vn = .int .i64 z ∧ i ≤ N ∧ (0 ≤ z ∧ z ≤ 4000000) ∧ Hid (z = (wideL tail false (ts.take i) : Int)) ∧ Hid (Below w.heap.size w wr)) (fun _ vi _ => N - (intOf vi).toNat)
    case atStart => exact ⟨0, 0, rfl, rfl, by omega, by omega, Lib.hid (by simp [wideL]), Lib.hid (Below.refl _ _)⟩
    case round =>
      obtain ⟨i, z, rfl, rfl, hi, ⟨hz0, hz1⟩, HZ, BB⟩ := hrel
      by_cases hp : i < N
      · have hp' : i < ts.length := by rw [HN.out]; exact hp
        have hitem := HR.out wr BB.out
        obtain ⟨a, B, m, bc, rfl, la, p0, p1, p2, r1, e1⟩ := hitem.item hp'
        have hic := HIH.out i hp'
        have hwt := HWT.out i hp'
        have hws := HWS.out (i + 1)
        have hlf := HLF.out i hp'
        have hks := HKS.out i hp'
        have HPC : Hid (∀ j, i = j + 1 → ∃ kj, wr.cell? (a.add (j * 3)) = some (.int .i64 kj) ∧ pcAt ts i = decide (kj = 2)) := Lib.hid (fun j hj => by
          subst hj
          obtain ⟨a2, B2, m2, bc2, ea, -, s0, -⟩ := hitem.item (i := j) (by omega)
          injection ea with ea
          subst ea
          refine ⟨_, s0, ?_⟩
          simp [pcAt, List.getElem?_eq_getElem (show j < ts.length by omega)])
        obtain ⟨x, hx⟩ : ∃ x, ts[i] = x := ⟨_, rfl⟩
        obtain ⟨k, n, kids⟩ := x
        rw [hx] at p0 p1 r1 e1 hic hwt hlf hks
        simp only [Tr.k, Tr.n, Tr.kids] at p0 p1 r1 e1 hic hks
        have hkl := lf_kids hlf
        have hst := wideT_step tail (if i = 0 then false else pcAt ts i) k n kids hlf
        have HC := Lib.hid (hic hkl (.slice B m bc) wr r1)
        obtain ⟨W2, hW2⟩ : ∃ W2 : Nat, wideL tail false kids = W2 := ⟨_, rfl⟩
        rw [hW2] at HC hst hks
        have LA : Hid ((a.add (i * 3)).block < wr.heap.size) := Lib.hid (by rw [addr_addb]; exact la)
        have hW2b : (W2 : Int) ≤ 4000000 := by omega
        obtain ⟨z2, hz2⟩ : ∃ z2 : Int, (wideL tail false (ts.take (i + 1)) : Int) = z2 := ⟨_, rfl⟩
        have hzz : z2 = z + (1 + (W2 : Int) + (if k = 6 then 1 else 0) - (if tail = true ∧ (if i = 0 then false else pcAt ts i) = true ∧ k = 8 then 1 else 0)) := by
          rw [← hz2, hwt, ← hst, HZ.out]
          omega
        have hz2b : 0 ≤ z2 ∧ z2 ≤ 4000000 := by omega
        have HZ2 := Lib.hid hz2.symm
        have i1 : (0 : Int) ≤ (i : Int) := by omega
        have i2 : (i : Int) < (N : Int) := by omega
        have w0 : (0 : Int) ≤ (W2 : Int) := by omega
        clear hx hwt hws hlf hkl hst hic r1 hitem hW2 hz2 HIH HWT HWS HLF hks HKS
        by_cases h6 : k = 6
        · subst h6
          have hz3 : z2 = z + 1 + (W2 : Int) + 1 := by
            rw [hzz, if_pos rfl, if_neg (fun h => by have := h.2.2; omega)]
            omega
          have HZ3 := Lib.hid hz3
          have HZB := Lib.hid hz2b
          clear hzz HPC hz3 hz2b e1
          have tt : tail = true ∨ tail = false := by cases tail <;> simp
          rcases tt with rfl | rfl
          all_goals
            go_wp2_with fail
            refine HC.out.mono ?_
            rintro e w3 ⟨rfl, hb3⟩
            have HB3 := Lib.hid (BB.out.trans (hb3.mono BB.out.size))
            have q0 : w3.cell? (a.add (i * 3)) = some (.int .i64 6) := (hb3.cell LA.out).trans p0
            clear hb3 BB HC p0 p1 p2
            by_cases hi0 : i = 0
            · have i3 : ¬ (0 : Int) < (i : Int) := by omega
              clear hi0
              go_wp2_with fail
              go_roundw
              case rel => exact ⟨i + 1, z2, by go_num, by first | (rw [HZ3.out]; done) | (rw [HZ3.out]; go_num), by omega, HZB.out, HZ2, HB3⟩
              case measure => simp [intOf]; omega
            · have i3 : (0 : Int) < (i : Int) := by omega
              go_wp2_with fail
              go_roundw
              case rel => exact ⟨i + 1, z2, by go_num, by first | (rw [HZ3.out]; done) | (rw [HZ3.out]; go_num), by omega, HZB.out, HZ2, HB3⟩
              case measure => simp [intOf]; omega
        · have q6 : (k == 6) = false := by simpa using h6
          rw [if_neg h6] at hzz
          have PRE := Lib.hid e1
          clear e1 PRE h6
          cases tail with
          | false =>
            have hz3 : z2 = z + 1 + (W2 : Int) := by
              rw [hzz, if_neg (fun h => by have := h.1; cases this)]
              omega
            have HZ3 := Lib.hid hz3
            have HZB := Lib.hid hz2b
            clear hzz HPC hz3 hz2b
            go_wp2_with fail
            refine HC.out.mono ?_
            rintro e w3 ⟨rfl, hb3⟩
            have HB3 := Lib.hid (BB.out.trans (hb3.mono BB.out.size))
            have q0 : w3.cell? (a.add (i * 3)) = some (.int .i64 k) := (hb3.cell LA.out).trans p0
            clear hb3 BB HC p0 p1 p2
            go_wp2_with fail
            go_roundw
            case rel => exact ⟨i + 1, z2, by go_num, by first | (rw [HZ3.out]; done) | (rw [HZ3.out]; go_num), by omega, HZB.out, HZ2, HB3⟩
            case measure => simp [intOf]; omega
          | true =>
            by_cases hi0 : i = 0
            · have i3 : ¬ (0 : Int) < (i : Int) := by omega
              have hz3 : z2 = z + 1 + (W2 : Int) := by
                rw [hzz, if_pos hi0, if_neg (fun h => by have := h.2.1; simp at this)]
                omega
              have HZ3 := Lib.hid hz3
              have HZB := Lib.hid hz2b
              clear hzz HPC hz3 hz2b hi0
              go_wp2_with fail
              refine HC.out.mono ?_
              rintro e w3 ⟨rfl, hb3⟩
              have HB3 := Lib.hid (BB.out.trans (hb3.mono BB.out.size))
              have q0 : w3.cell? (a.add (i * 3)) = some (.int .i64 k) := (hb3.cell LA.out).trans p0
              clear hb3 BB HC p0 p1 p2
              go_wp2_with fail
              go_roundw
              case rel => exact ⟨i + 1, z2, by go_num, by first | (rw [HZ3.out]; done) | (rw [HZ3.out]; go_num), by omega, HZB.out, HZ2, HB3⟩
              case measure => simp [intOf]; omega
            · have i3 : (0 : Int) < (i : Int) := by omega
              rw [if_neg hi0] at hzz
              by_cases h8 : k = 8
              · subst h8
                obtain ⟨j, rfl⟩ : ∃ j, i = j + 1 := ⟨i - 1, by omega⟩
                obtain ⟨kj, s0, hpc⟩ := HPC.out j rfl
                have wj : ((j + 1 : Nat) : Int) - 1 = (j : Int) := by omega
                have wz : IntKind.i64.wrap (((j + 1 : Nat) : Int) - 1) = (j : Int) := by rw [wj]; exact IntWalk.i64_in _ (by omega)
                have j1 : (0 : Int) ≤ (j : Int) := by omega
                have j2 : (j : Int) < (N : Int) := by omega
                have LJ : Hid ((a.add (j * 3)).block < wr.heap.size) := Lib.hid (by rw [addr_addb]; have := LA.out; rw [addr_addb] at this; exact this)
                by_cases h2 : kj = 2
                · subst h2
                  have hz3 : z2 = z + 1 + (W2 : Int) - 1 := by
                    rw [hzz, if_pos ⟨rfl, by rw [hpc]; rfl, rfl⟩]
                    omega
                  have HZ3 := Lib.hid hz3
                  have HZB := Lib.hid hz2b
                  clear hzz HPC hz3 hz2b hpc hi0
                  go_wp2_with fail
                  refine HC.out.mono ?_
                  rintro e w3 ⟨rfl, hb3⟩
                  have HB3 := Lib.hid (BB.out.trans (hb3.mono BB.out.size))
                  have q0 : w3.cell? (a.add ((j + 1) * 3)) = some (.int .i64 8) := (hb3.cell LA.out).trans p0
                  have q1 : w3.cell? (a.add (j * 3)) = some (.int .i64 2) := (hb3.cell LJ.out).trans s0
                  clear hb3 BB HC p0 p1 p2 s0
                  go_wp2_with fail
                  go_roundw
                  case rel => exact ⟨j + 1 + 1, z2, by go_num, by first | (rw [HZ3.out]; done) | (rw [HZ3.out]; go_num), by omega, HZB.out, HZ2, HB3⟩
                  case measure => simp [intOf]; omega
                · have q2 : (kj == 2) = false := by simpa using h2
                  have hz3 : z2 = z + 1 + (W2 : Int) := by
                    rw [hzz, if_neg (fun h => by have h := h.2.1; rw [hpc] at h; simp at h; exact h2 h)]
                    omega
                  have HZ3 := Lib.hid hz3
                  have HZB := Lib.hid hz2b
                  clear hzz HPC hz3 hz2b hpc hi0 h2
                  go_wp2_with fail
                  refine HC.out.mono ?_
                  rintro e w3 ⟨rfl, hb3⟩
                  have HB3 := Lib.hid (BB.out.trans (hb3.mono BB.out.size))
                  have q0 : w3.cell? (a.add ((j + 1) * 3)) = some (.int .i64 8) := (hb3.cell LA.out).trans p0
                  have q1 : w3.cell? (a.add (j * 3)) = some (.int .i64 kj) := (hb3.cell LJ.out).trans s0
                  clear hb3 BB HC p0 p1 p2 s0
                  go_wp2_with fail
                  go_roundw
                  case rel => exact ⟨j + 1 + 1, z2, by go_num, by first | (rw [HZ3.out]; done) | (rw [HZ3.out]; go_num), by omega, HZB.out, HZ2, HB3⟩
                  case measure => simp [intOf]; omega
              · have q8 : (k == 8) = false := by simpa using h8
                have hz3 : z2 = z + 1 + (W2 : Int) := by
                  rw [hzz, if_neg (fun h => h8 h.2.2)]
                  omega
                have HZ3 := Lib.hid hz3
                have HZB := Lib.hid hz2b
                clear hzz HPC hz3 hz2b hi0 h8
                go_wp2_with fail
                refine HC.out.mono ?_
                rintro e w3 ⟨rfl, hb3⟩
                have HB3 := Lib.hid (BB.out.trans (hb3.mono BB.out.size))
                have q0 : w3.cell? (a.add (i * 3)) = some (.int .i64 k) := (hb3.cell LA.out).trans p0
                clear hb3 BB HC p0 p1 p2
                go_wp2_with fail
                go_roundw
                case rel => exact ⟨i + 1, z2, by go_num, by first | (rw [HZ3.out]; done) | (rw [HZ3.out]; go_num), by omega, HZB.out, HZ2, HB3⟩
                case measure => simp [intOf]; omega
      · obtain rfl : i = N := by omega
        have HE : Hid (z = (wideL tail false ts : Int)) := Lib.hid (by rw [HZ.out, HTL.out])
        clear HZ
        go_wp2_with fail
        go_ret
        exact ⟨by rw [← HE.out]; rfl, BB.out⟩
end Go.Proofs.Ytofikgjoiidhmaa
