/-
  What closures do: a place is filled, or a step goes back.
  (*impl.maker).op does what opM says.
  (*impl.maker).body does what bodyM says.
-/
import Derived.Test.YtofikgjoiidhmaaGreatDoorCD7
import Derived.Deep.RegionHeld3
namespace Go.Proofs.YtofikgjoiidhmaaGreatDoor
open Go.RowKit Go

section
variable {lo g : Nat} {w : World} {Fz : List (Nat × Obj)} {vl vs ve vc : Value} {l : List (Int × Int)} {st : List Int} {ec cc : List Value} {E : List Cl} {C : List (Nat × Nat)}
/-- A step's number is exchanged. -/
theorem Mk4.setL {q cap : Nat} (h : Mk4 lo g w Fz (.slice (some ⟨q, 0, none⟩) l.length cap) vs ve vc l st ec cc) {a : Nat} (ha : a < l.length) (m : Int) : Mk4 lo g (w.setCell ⟨q, a * 2 + 1, none⟩ (.int .i64 m)) Fz (.slice (some ⟨q, 0, none⟩) l.length cap) vs ve vc (l.set a (l[a].1, m)) st ec cc ∧ Below lo w (w.setCell ⟨q, a * 2 + 1, none⟩ (.int .i64 m)) := by
  have hq : (Value.slice (some ⟨q, 0, none⟩) l.length cap).ownBlock = some q := rfl
  have s1 := h.rl.stored (a * 2 + 1) (.int .i64 m)
  have hrow := s1.1
  rw [cdv_set1 ha] at hrow
  have hql := World.ownsRow.lt h.rl q hq
  have hne : q ≠ g := fun e => box_neM h.box h.rl (by decide) (by rw [hq, e])
  have far : ∀ k, k ≠ q → (w.setCell ⟨q, a * 2 + 1, none⟩ (.int .i64 m)).heap[k]? = w.heap[k]? := fun k hk => Below.heap_setCell w _ _ k hk
  have key : ∀ {base size k : Nat} {e : TypeId} {u : Value} {xs : List Value}, w.ownsRow base e size u k xs → 72 ≠ e → (w.setCell ⟨q, a * 2 + 1, none⟩ (.int .i64 m)).ownsRow base e size u k xs := fun hr hm => row_sameM hr (fun k hk => far k (fun e => types_neM h.rl hr hm q hq (by rw [hk, e])))
  refine ⟨⟨?_, ?_, key h.rs (by decide), key h.re (by decide), key h.rc (by decide), h.ap, fun p hp => ?_, h.low⟩, (Below.refl lo w).setCell (p := ⟨q, a * 2 + 1, none⟩) hql.1 _⟩
  · exact (far g (fun e => hne e.symm)).trans h.box
  · rw [List.length_set]
    exact hrow
  · have hp0 := h.fz p hp
    exact ⟨(far p.1 (fun e => hp0.2.2.2.1 (by rw [hq, e]))).trans hp0.1, hp0.2⟩
set_option maxRecDepth 100000 in
set_option maxHeartbeats 4000000 in
theorem pastend_any {bm ba a : Nat} (hm : (bm, mBox g) ∈ Fz) (ha : (ba, nBox (a : Int)) ∈ Fz) (hal : a < l.length) (hl : l.length ≤ 3000) (h : MkAt lo g w Fz l E C st) :
    Calls Tryz.prog 161 #[.pointer (some ⟨bm, 0, none⟩), .pointer (some ⟨ba, 0, none⟩)] w fun e w' => e = .returned (.tuple #[]) ∧ MkAt lo g w' Fz (l.set a (l[a].1, (l.length : Int))) E C st ∧ Below lo w w' := by
  obtain ⟨vl, vs, ve, vc, ec, cc, h1, h2, h3⟩ := h
  obtain ⟨q, cap, rfl, hcap, hq, hloq⟩ := own_posM h1.rl (by omega)
  have hd := h1.below (Below.refl w.heap.size w).drew
  have HM := Lib.hid (hd.setL hal (l.length : Int))
  have HE : Hid (Both (EndIs Fz g) ec E ∧ Both (CallIs Fz g) cc C) := Lib.hid ⟨h2, h3⟩
  have k0 := hd.cell hm
  have k1 := hd.cell ha
  have k2 : w.drew.cell? ⟨g, 0, none⟩ = some (.slice (some ⟨q, 0, none⟩) l.length cap) := hd.box.cell 0
  have KC0 : Hid (w.drew.cell? ⟨bm, 0, none⟩ = some (.pointer (some ⟨g, 0, none⟩)) ∧ w.drew.cell? ⟨ba, 0, none⟩ = some (.int .i64 (a : Int)) ∧ w.drew.cell? ⟨g, 0, none⟩ = some (.slice (some ⟨q, 0, none⟩) l.length cap)) := Lib.hid ⟨k0, k1, k2⟩
  have KC1 : Hid ((w.drew.setCell ⟨q, a * 2 + 1, none⟩ (.int .i64 (l.length : Int))).cell? ⟨bm, 0, none⟩ = some (.pointer (some ⟨g, 0, none⟩)) ∧ (w.drew.setCell ⟨q, a * 2 + 1, none⟩ (.int .i64 (l.length : Int))).cell? ⟨ba, 0, none⟩ = some (.int .i64 (a : Int)) ∧ (w.drew.setCell ⟨q, a * 2 + 1, none⟩ (.int .i64 (l.length : Int))).cell? ⟨g, 0, none⟩ = some (.slice (some ⟨q, 0, none⟩) l.length cap)) := Lib.hid ⟨HM.out.1.cell hm, HM.out.1.cell ha, HM.out.1.box.cell 0⟩
  have f1 : w.drew.frozen? ⟨q, a * 2 + 1, none⟩ = false := hd.rl.frozenAt (a * 2 + 1)
  obtain ⟨u1, c1⟩ : ∃ u, w.drew.cell? ⟨q, a * 2 + 1, none⟩ = some u := ⟨_, (hd.rl.cellAt (a * 2 + 1) (by omega)).trans (cdv_get1 hal)⟩
  have lb : bm < w.heap.size := (Array.getElem?_eq_some_iff.1 (h1.fz _ hm).1).1
  have la : ba < w.heap.size := (Array.getElem?_eq_some_iff.1 (h1.fz _ ha).1).1
  have lg := h1.box.lt
  have i1 : (0 : Int) ≤ (a : Int) := by omega
  have i2 : (a : Int) < (l.length : Int) := by omega
  obtain ⟨L2, hL2⟩ : ∃ L2, l.set a (l[a].1, (l.length : Int)) = L2 := ⟨_, rfl⟩
  rw [hL2] at HM ⊢
  have HB0 := Lib.hid ((Below.refl lo w).drew)
  obtain ⟨N, hN⟩ : ∃ N, l.length = N := ⟨_, rfl⟩
  rw [hN] at HM KC0 KC1 i2 hl hcap
  clear h1 h2 h3 hd k0 k1 k2 hL2 hN hm ha hal hloq
  go_enter Tryz.func161, Tryz.ntmps161
  go_wp2_with fail
  go_region_held3 (fun w' => w'.cell? ⟨bm, 0, none⟩ = some (.pointer (some ⟨g, 0, none⟩)) ∧ w'.cell? ⟨ba, 0, none⟩ = some (.int .i64 (a : Int)) ∧ w'.cell? ⟨g, 0, none⟩ = some (.slice (some ⟨q, 0, none⟩) N cap)) (first | exact KC0.out | exact KC1.out) (fail)
  all_goals
    go_wp2_with fail
    go_end0
    exact ⟨rfl, ⟨_, _, _, _, _, _, HM.out.1, HE.out.1, HE.out.2⟩, HB0.out.trans HM.out.2⟩
set_option maxRecDepth 100000 in
set_option maxHeartbeats 4000000 in
theorem startend4 {bm bk ba a k : Nat} (hm : (bm, mBox g) ∈ Fz) (hk : (bk, nBox (k : Int)) ∈ Fz) (ha : (ba, nBox (a : Int)) ∈ Fz) (hal : a < l.length) (hkl : k < st.length) (hst : st.length ≤ 3000) (hl : l.length ≤ 3000) (h1 : Mk4 lo g w Fz vl vs ve vc l st ec cc) :
    Calls Tryz.prog 135 #[.pointer (some ⟨bm, 0, none⟩), .pointer (some ⟨bk, 0, none⟩), .pointer (some ⟨ba, 0, none⟩)] w fun e w' => e = .returned (.tuple #[]) ∧ Mk4 lo g w' Fz vl vs ve vc (l.set a (l[a].1, st[k])) st ec cc ∧ Below lo w w' := by
  obtain ⟨q, cap, rfl, hcap, hq, hloq⟩ := own_posM h1.rl (by omega)
  obtain ⟨q1, cap1, rfl, hcap1, hq1, hloq1⟩ := own_posM h1.rs (by omega)
  have hd := h1.below (Below.refl w.heap.size w).drew
  have HM := Lib.hid (hd.setL hal st[k])
  have s0 : ∀ W, Mk4 lo g W Fz (.slice (some ⟨q, 0, none⟩) l.length cap) (.slice (some ⟨q1, 0, none⟩) st.length cap1) ve vc (l.set a (l[a].1, st[k])) st ec cc ∨ Mk4 lo g W Fz (.slice (some ⟨q, 0, none⟩) l.length cap) (.slice (some ⟨q1, 0, none⟩) st.length cap1) ve vc l st ec cc → W.cell? ⟨bm, 0, none⟩ = some (.pointer (some ⟨g, 0, none⟩)) ∧ W.cell? ⟨bk, 0, none⟩ = some (.int .i64 (k : Int)) ∧ W.cell? ⟨ba, 0, none⟩ = some (.int .i64 (a : Int)) ∧ W.cell? ⟨g, 0, none⟩ = some (.slice (some ⟨q, 0, none⟩) l.length cap) ∧ W.cell? ⟨g, 1, none⟩ = some (.slice (some ⟨q1, 0, none⟩) st.length cap1) ∧ W.cell? ⟨q1, k, none⟩ = some (.int .i64 st[k]) := fun W hW => by
    have hst : ∀ {xs : List (Int × Int)}, Mk4 lo g W Fz (.slice (some ⟨q, 0, none⟩) l.length cap) (.slice (some ⟨q1, 0, none⟩) st.length cap1) ve vc xs st ec cc → W.cell? ⟨q1, k, none⟩ = some (.int .i64 st[k]) := fun hx => by
      rw [hx.rs.cellAt k (by omega), List.getElem?_map, List.getElem?_eq_getElem hkl]
      rfl
    rcases hW with hx | hx
    · exact ⟨hx.cell hm, hx.cell hk, hx.cell ha, hx.box.cell 0, hx.box.cell 1, hst hx⟩
    · exact ⟨hx.cell hm, hx.cell hk, hx.cell ha, hx.box.cell 0, hx.box.cell 1, hst hx⟩
  have KC0 := Lib.hid (s0 _ (.inr hd))
  have KC1 := Lib.hid (s0 _ (.inl HM.out.1))
  have f1 : w.drew.frozen? ⟨q, a * 2 + 1, none⟩ = false := hd.rl.frozenAt (a * 2 + 1)
  obtain ⟨u1, c1⟩ : ∃ u, w.drew.cell? ⟨q, a * 2 + 1, none⟩ = some u := ⟨_, (hd.rl.cellAt (a * 2 + 1) (by omega)).trans (cdv_get1 hal)⟩
  have lb : bm < w.heap.size := (Array.getElem?_eq_some_iff.1 (h1.fz _ hm).1).1
  have lk : bk < w.heap.size := (Array.getElem?_eq_some_iff.1 (h1.fz _ hk).1).1
  have la : ba < w.heap.size := (Array.getElem?_eq_some_iff.1 (h1.fz _ ha).1).1
  have lg := h1.box.lt
  have i1 : (0 : Int) ≤ (a : Int) := by omega
  have i2 : (a : Int) < (l.length : Int) := by omega
  have i3 : (0 : Int) ≤ (k : Int) := by omega
  have i4 : (k : Int) < (st.length : Int) := by omega
  obtain ⟨sk, hsk⟩ : ∃ sk, st[k] = sk := ⟨_, rfl⟩
  rw [hsk] at HM KC0 KC1 ⊢
  obtain ⟨L2, hL2⟩ : ∃ L2, l.set a (l[a].1, sk) = L2 := ⟨_, rfl⟩
  rw [hL2] at HM ⊢
  have HB0 := Lib.hid ((Below.refl lo w).drew)
  obtain ⟨N, hN⟩ : ∃ N, l.length = N := ⟨_, rfl⟩
  obtain ⟨M, hM2⟩ : ∃ M, st.length = M := ⟨_, rfl⟩
  rw [hN, hM2] at HM KC0 KC1 ⊢
  rw [hN] at i2 hl hcap
  rw [hM2] at i4 hst hcap1
  clear h1 hd s0 hL2 hN hM2 hm ha hk hal hkl hloq hloq1 hsk
  go_enter Tryz.func135, Tryz.ntmps135
  go_wp2_with fail
  go_region_held3 (fun w' => w'.cell? ⟨bm, 0, none⟩ = some (.pointer (some ⟨g, 0, none⟩)) ∧ w'.cell? ⟨bk, 0, none⟩ = some (.int .i64 (k : Int)) ∧ w'.cell? ⟨ba, 0, none⟩ = some (.int .i64 (a : Int)) ∧ w'.cell? ⟨g, 0, none⟩ = some (.slice (some ⟨q, 0, none⟩) N cap) ∧ w'.cell? ⟨g, 1, none⟩ = some (.slice (some ⟨q1, 0, none⟩) M cap1) ∧ w'.cell? ⟨q1, k, none⟩ = some (.int .i64 sk)) (first | exact KC0.out | exact KC1.out) (fail)
  all_goals
    go_wp2_with fail
    go_end0
    exact ⟨rfl, HM.out.1, HB0.out.trans HM.out.2⟩
set_option maxRecDepth 100000 in
set_option maxHeartbeats 2000000 in
theorem againend_any {bm ba a : Nat} (hm : (bm, mBox g) ∈ Fz) (ha : (ba, nBox (a : Int)) ∈ Fz) (hl : l.length ≤ 3000) (h : MkAt lo g w Fz l E C st) :
    Calls Tryz.prog 138 #[.pointer (some ⟨bm, 0, none⟩), .pointer (some ⟨ba, 0, none⟩)] w fun e w' => e = .returned (.tuple #[]) ∧ MkAt lo g w' Fz (l ++ [(7, (a : Int))]) E C st ∧ Below lo w w' := by
  have HS := Lib.hid (mstep_any 7 (a : Int) hl h)
  obtain ⟨q0, lz⟩ := h.cell hm
  obtain ⟨q1, ly⟩ := h.cell ha
  obtain ⟨L2, hL2⟩ : ∃ L2, l ++ [(7, (a : Int))] = L2 := ⟨_, rfl⟩
  rw [hL2] at HS ⊢
  clear h hm ha hL2
  go_enter Tryz.func138, Tryz.ntmps138
  go_wp2_with fail
  refine HS.out.mono ?_
  rintro e w3 ⟨rfl, h3, hb3⟩
  have H3 := Lib.hid h3
  have HB3 := Lib.hid hb3
  clear h3 hb3 HS q0 q1
  go_wp2_with fail
  go_end0
  exact ⟨rfl, H3.out, HB3.out⟩
end
end Go.Proofs.YtofikgjoiidhmaaGreatDoor

namespace Go.Proofs.YtofikgjoiidhmaaGreatDoor
open Go.RowKit Go

abbrev oBox (k n : Int) : Obj := .cells #[.int .i64 k, .int .i32 n] 70
/-- What waits is a place without a definition. -/
def MkOk (m : Mk) : Prop := ∀ a, Cl.past a ∈ m.E → ∃ o n, m.L[a]? = some (o, .inl n)
theorem MkAt.cell2 {lo g : Nat} {w : World} {Fz : List (Nat × Obj)} {l : List (Int × Int)} {E : List Cl} {C : List (Nat × Nat)} {st : List Int} (h : MkAt lo g w Fz l E C st) {b : Nat} {u v : Value} {t : TypeId} (hb : (b, Obj.cells #[u, v] t) ∈ Fz) : w.cell? ⟨b, 0, none⟩ = some u ∧ w.cell? ⟨b, 1, none⟩ = some v ∧ b < w.heap.size := by
  obtain ⟨vl, vs, ve, vc, ec, cc, h1, -⟩ := h
  have := h1.cells2 hb
  exact ⟨this.1, this.2, (Array.getElem?_eq_some_iff.1 (h1.fz _ hb).1).1⟩
theorem MkAt.len {lo g : Nat} {w : World} {Fz : List (Nat × Obj)} {l : List (Int × Int)} {E : List Cl} {C : List (Nat × Nat)} {st : List Int} (h : MkAt lo g w Fz l E C st) : ∃ A cap, w.cell? ⟨g, 0, none⟩ = some (.slice A l.length cap) ∧ g < w.heap.size := by
  obtain ⟨vl, vs, ve, vc, ec, cc, h1, -⟩ := h
  obtain ⟨A, cap, rfl⟩ := own_formM h1.rl
  exact ⟨A, cap, h1.box.cell 0, h1.box.lt⟩
theorem map_set_pend (L : List Cd) (a : Nat) (o : Int) (n : Int) : (L.set a (o, .inl n)).map pendC = (L.map pendC).set a (o, n) := by
  rw [List.map_set]
  rfl
theorem open_set : ∀ (L : List Cd) (a b : Nat) (o o2 n n2 : Int), L[a]? = some (o, .inl n) → openC b (L.set a (o2, .inl n2)) = openC b L := by
  intro L
  induction L with
  | nil => intro a b o o2 n n2 h; simp at h
  | cons c r ih =>
    intro a b o o2 n n2 h
    obtain ⟨c1, c2⟩ := c
    cases a with
    | zero =>
      simp at h
      obtain ⟨rfl, rfl⟩ := h
      simp [openC]
    | succ a =>
      simp only [List.getElem?_cons_succ] at h
      simp only [List.set_cons_succ]
      cases c2 with
      | inl x => simp only [openC]; exact ih a (b + 1) o o2 n n2 h
      | inr x => simp only [openC]; rw [ih a (b + 1) o o2 n n2 h]
theorem open_len : ∀ (a : Nat) (L : List Cd), (openC a L).length ≤ L.length
  | _, [] => by simp [openC]
  | a, (o, .inl n) :: r => by have := open_len (a + 1) r; simp only [openC, List.length_cons]; omega
  | a, (o, .inr n) :: r => by have := open_len (a + 1) r; simp only [openC, List.length_cons]; omega
theorem mkok_app {m : Mk} (h : MkOk m) (L2 : List Cd) : MkOk ⟨m.L ++ L2, m.E⟩ := fun a ha => by
  obtain ⟨o, n, hn⟩ := h a ha
  exact ⟨o, n, by rw [List.getElem?_append_left (List.getElem?_eq_some_iff.1 hn).1]; exact hn⟩
theorem opM_len {m m2 : Mk} {o : Int × Int} (h : opM m o = some m2) : m2.L.length ≤ m.L.length + 1 ∧ m2.E.length ≤ m.E.length + 1 := by
  unfold opM at h
  repeat' split at h
  all_goals first
    | (injection h with h; subst h; simp; try omega)
    | cases h
theorem opM_ok {m m2 : Mk} {o : Int × Int} (h : MkOk m) (ho : opM m o = some m2) : MkOk m2 := by
  have hw : ∀ (c : Int), MkOk ⟨m.L ++ [(c, .inl 0)], m.E ++ [.past m.L.length]⟩ := fun c a ha => by
    rcases List.mem_append.1 ha with ha | ha
    · exact mkok_app h _ a ha
    · simp at ha
      subst ha
      exact ⟨c, 0, by simp⟩
  unfold opM at ho
  split at ho
  · injection ho with ho; subst ho; exact mkok_app h _
  split at ho
  · injection ho with ho; subst ho; exact mkok_app h _
  split at ho
  · injection ho with ho; subst ho; exact mkok_app h _
  split at ho
  · injection ho with ho; subst ho; exact hw _
  split at ho
  · injection ho with ho; subst ho; exact hw _
  split at ho
  · injection ho with ho
    subst ho
    intro a ha
    rcases List.mem_append.1 ha with ha | ha
    · exact mkok_app h _ a ha
    · simp at ha
  split at ho
  · split at ho
    · cases ho
    · rename_i b hb
      injection ho with ho
      subst ho
      intro a ha
      obtain ⟨o, n, hn⟩ := h a ((List.dropLast_sublist _).mem ha)
      by_cases hab : a = b
      · subst hab
        exact ⟨_, _, List.getElem?_set_self (List.getElem?_eq_some_iff.1 hn).1⟩
      · exact ⟨o, n, by rw [List.getElem?_set_ne (fun e => hab e.symm)]; exact hn⟩
    · rename_i b hb
      injection ho with ho
      subst ho
      intro a ha
      obtain ⟨o, n, hn⟩ := h a ((List.dropLast_sublist _).mem ha)
      exact ⟨o, n, by rw [List.getElem?_append_left (List.getElem?_eq_some_iff.1 hn).1]; exact hn⟩
  split at ho
  · injection ho with ho; subst ho; exact mkok_app h _
  · injection ho with ho; subst ho; exact h
/-- How an op by itself ends. -/
def OpEnd (lo g : Nat) (w : World) (Fz : List (Nat × Obj)) (m2 : Mk) (st : List Int) (e : Ending) (w' : World) : Prop :=
  e = .returned (.tuple #[]) ∧ (∃ Gz, (∀ p ∈ Fz, p ∈ Gz) ∧ MkAt lo g w' Gz (m2.L.map pendC) m2.E (openC 0 m2.L) st) ∧ Below lo w w'
section
variable {lo g : Nat} {w : World} {Fz : List (Nat × Obj)} {L : List Cd} {E : List Cl} {st : List Int}
set_option maxRecDepth 100000 in
set_option maxHeartbeats 2000000 in
theorem op_lit (n : Int) (hn0 : -2147483648 ≤ n) (hn1 : n ≤ 2147483647) (hL : L.length ≤ 2000) (_ : E.length ≤ 2000) (h : MkAt lo g w Fz (L.map pendC) E (openC 0 L) st) :
    Calls Tryz.prog 76 #[.pointer (some ⟨g, 0, none⟩), .agg #[.int .i64 0, .int .i32 n]] w (OpEnd lo g w Fz ⟨L ++ [(0, .inl n)], E⟩ st) := by
  have hlo := h.lows
  have h2 := (h.hold (mBox g)).hold (oBox 0 n)
  rw [World.size_alloc] at h2
  have hm1 : (w.heap.size, mBox g) ∈ (w.heap.size + 1, oBox 0 n) :: (w.heap.size, mBox g) :: Fz := by simp
  have hm2 : (w.heap.size + 1, oBox 0 n) ∈ (w.heap.size + 1, oBox 0 n) :: (w.heap.size, mBox g) :: Fz := by simp
  have hm3 : ∀ p ∈ Fz, p ∈ (w.heap.size + 1, oBox 0 n) :: (w.heap.size, mBox g) :: Fz := fun p hp => List.mem_cons_of_mem _ (List.mem_cons_of_mem _ hp)
  have hb2 : Below lo w ((w.alloc (mBox g)).alloc (oBox 0 n)) := ((Below.refl lo w).alloc hlo _).alloc (by rw [World.size_alloc]; omega) _
  obtain ⟨Gz, hGz⟩ : ∃ Gz, (w.heap.size + 1, oBox 0 n) :: (w.heap.size, mBox g) :: Fz = Gz := ⟨_, rfl⟩
  rw [hGz] at h2 hm1 hm2 hm3
  have HM1 := Lib.hid hm1
  have HM3 := Lib.hid hm3
  have HB2 := Lib.hid hb2
  have wn : IntKind.i64.wrap n = n := IntWalk.i64_in _ (by omega)
  have HS := Lib.hid (mstep_any 0 n (by simp; omega) h2)
  have HL : Hid ((L ++ [((0 : Int), (Sum.inl n : Int ⊕ Nat))]).map pendC = L.map pendC ++ [(0, n)] ∧ openC 0 (L ++ [((0 : Int), (Sum.inl n : Int ⊕ Nat))]) = openC 0 L) := Lib.hid (by simp [pendC, openC_app, openC])
  obtain ⟨L2, hL2⟩ : ∃ L2, L.map pendC = L2 := ⟨_, rfl⟩
  obtain ⟨C2, hC2⟩ : ∃ C2, openC 0 L = C2 := ⟨_, rfl⟩
  clear h h2 hm1 hm2 hm3 hb2 hGz hlo hL hL2 hC2
  go_enter Tryz.func76, Tryz.ntmps76
  go_wp2_with fail
  refine HS.out.mono ?_
  rintro e w3 ⟨rfl, h3, hb3⟩
  have HB3 := Lib.hid (HB2.out.trans hb3)
  have H3 := Lib.hid h3
  clear h3 hb3 HS HB2
  go_wp2_with fail
  go_end0
  exact ⟨rfl, ⟨Gz, HM3.out, by rw [HL.out.1, HL.out.2]; exact H3.out⟩, HB3.out⟩
set_option maxRecDepth 100000 in
set_option maxHeartbeats 2000000 in
theorem op_prim (n : Int) (hn0 : -2147483648 ≤ n) (hn1 : n ≤ 2147483647) (hL : L.length ≤ 2000) (_ : E.length ≤ 2000) (h : MkAt lo g w Fz (L.map pendC) E (openC 0 L) st) :
    Calls Tryz.prog 76 #[.pointer (some ⟨g, 0, none⟩), .agg #[.int .i64 1, .int .i32 n]] w (OpEnd lo g w Fz ⟨L ++ [(1, .inl n)], E⟩ st) := by
  have hlo := h.lows
  have h2 := (h.hold (mBox g)).hold (oBox 1 n)
  rw [World.size_alloc] at h2
  have hm1 : (w.heap.size, mBox g) ∈ (w.heap.size + 1, oBox 1 n) :: (w.heap.size, mBox g) :: Fz := by simp
  have hm2 : (w.heap.size + 1, oBox 1 n) ∈ (w.heap.size + 1, oBox 1 n) :: (w.heap.size, mBox g) :: Fz := by simp
  have hm3 : ∀ p ∈ Fz, p ∈ (w.heap.size + 1, oBox 1 n) :: (w.heap.size, mBox g) :: Fz := fun p hp => List.mem_cons_of_mem _ (List.mem_cons_of_mem _ hp)
  have hb2 : Below lo w ((w.alloc (mBox g)).alloc (oBox 1 n)) := ((Below.refl lo w).alloc hlo _).alloc (by rw [World.size_alloc]; omega) _
  obtain ⟨Gz, hGz⟩ : ∃ Gz, (w.heap.size + 1, oBox 1 n) :: (w.heap.size, mBox g) :: Fz = Gz := ⟨_, rfl⟩
  rw [hGz] at h2 hm1 hm2 hm3
  have HM1 := Lib.hid hm1
  have HM3 := Lib.hid hm3
  have HB2 := Lib.hid hb2
  have wn : IntKind.i64.wrap n = n := IntWalk.i64_in _ (by omega)
  have HS := Lib.hid (mstep_any 1 n (by simp; omega) h2)
  have HL : Hid ((L ++ [((1 : Int), (Sum.inl n : Int ⊕ Nat))]).map pendC = L.map pendC ++ [(1, n)] ∧ openC 0 (L ++ [((1 : Int), (Sum.inl n : Int ⊕ Nat))]) = openC 0 L) := Lib.hid (by simp [pendC, openC_app, openC])
  obtain ⟨L2, hL2⟩ : ∃ L2, L.map pendC = L2 := ⟨_, rfl⟩
  obtain ⟨C2, hC2⟩ : ∃ C2, openC 0 L = C2 := ⟨_, rfl⟩
  clear h h2 hm1 hm2 hm3 hb2 hGz hlo hL hL2 hC2
  go_enter Tryz.func76, Tryz.ntmps76
  go_wp2_with fail
  refine HS.out.mono ?_
  rintro e w3 ⟨rfl, h3, hb3⟩
  have HB3 := Lib.hid (HB2.out.trans hb3)
  have H3 := Lib.hid h3
  clear h3 hb3 HS HB2
  go_wp2_with fail
  go_end0
  exact ⟨rfl, ⟨Gz, HM3.out, by rw [HL.out.1, HL.out.2]; exact H3.out⟩, HB3.out⟩
set_option maxRecDepth 100000 in
set_option maxHeartbeats 2000000 in
theorem op_exit (n : Int)  (hL : L.length ≤ 2000) (_ : E.length ≤ 2000) (h : MkAt lo g w Fz (L.map pendC) E (openC 0 L) st) :
    Calls Tryz.prog 76 #[.pointer (some ⟨g, 0, none⟩), .agg #[.int .i64 8, .int .i32 n]] w (OpEnd lo g w Fz ⟨L ++ [(8, .inl 0)], E⟩ st) := by
  have hlo := h.lows
  have h2 := (h.hold (mBox g)).hold (oBox 8 n)
  rw [World.size_alloc] at h2
  have hm1 : (w.heap.size, mBox g) ∈ (w.heap.size + 1, oBox 8 n) :: (w.heap.size, mBox g) :: Fz := by simp
  have hm2 : (w.heap.size + 1, oBox 8 n) ∈ (w.heap.size + 1, oBox 8 n) :: (w.heap.size, mBox g) :: Fz := by simp
  have hm3 : ∀ p ∈ Fz, p ∈ (w.heap.size + 1, oBox 8 n) :: (w.heap.size, mBox g) :: Fz := fun p hp => List.mem_cons_of_mem _ (List.mem_cons_of_mem _ hp)
  have hb2 : Below lo w ((w.alloc (mBox g)).alloc (oBox 8 n)) := ((Below.refl lo w).alloc hlo _).alloc (by rw [World.size_alloc]; omega) _
  obtain ⟨Gz, hGz⟩ : ∃ Gz, (w.heap.size + 1, oBox 8 n) :: (w.heap.size, mBox g) :: Fz = Gz := ⟨_, rfl⟩
  rw [hGz] at h2 hm1 hm2 hm3
  have HM1 := Lib.hid hm1
  have HM3 := Lib.hid hm3
  have HB2 := Lib.hid hb2
  have HS := Lib.hid (mstep_any 8 0 (by simp; omega) h2)
  have HL : Hid ((L ++ [((8 : Int), (Sum.inl 0 : Int ⊕ Nat))]).map pendC = L.map pendC ++ [(8, 0)] ∧ openC 0 (L ++ [((8 : Int), (Sum.inl 0 : Int ⊕ Nat))]) = openC 0 L) := Lib.hid (by simp [pendC, openC_app, openC])
  obtain ⟨L2, hL2⟩ : ∃ L2, L.map pendC = L2 := ⟨_, rfl⟩
  obtain ⟨C2, hC2⟩ : ∃ C2, openC 0 L = C2 := ⟨_, rfl⟩
  clear h h2 hm1 hm2 hm3 hb2 hGz hlo hL hL2 hC2
  go_enter Tryz.func76, Tryz.ntmps76
  go_wp2_with fail
  refine HS.out.mono ?_
  rintro e w3 ⟨rfl, h3, hb3⟩
  have HB3 := Lib.hid (HB2.out.trans hb3)
  have H3 := Lib.hid h3
  clear h3 hb3 HS HB2
  go_wp2_with fail
  go_end0
  exact ⟨rfl, ⟨Gz, HM3.out, by rw [HL.out.1, HL.out.2]; exact H3.out⟩, HB3.out⟩
set_option maxRecDepth 100000 in
set_option maxHeartbeats 2000000 in
theorem op_call (k : Nat) (hk : k ≤ 23) (hL : L.length ≤ 2000) (_ : E.length ≤ 2000) (h : MkAt lo g w Fz (L.map pendC) E (openC 0 L) st) :
    Calls Tryz.prog 76 #[.pointer (some ⟨g, 0, none⟩), .agg #[.int .i64 2, .int .i32 (k : Int)]] w (OpEnd lo g w Fz ⟨L ++ [(2, .inr k)], E⟩ st) := by
  have hlo := h.lows
  have h2 := (h.hold (mBox g)).hold (oBox 2 (k : Int))
  rw [World.size_alloc] at h2
  have hm1 : (w.heap.size, mBox g) ∈ (w.heap.size + 1, oBox 2 (k : Int)) :: (w.heap.size, mBox g) :: Fz := by simp
  have hm2 : (w.heap.size + 1, oBox 2 (k : Int)) ∈ (w.heap.size + 1, oBox 2 (k : Int)) :: (w.heap.size, mBox g) :: Fz := by simp
  have hm3 : ∀ p ∈ Fz, p ∈ (w.heap.size + 1, oBox 2 (k : Int)) :: (w.heap.size, mBox g) :: Fz := fun p hp => List.mem_cons_of_mem _ (List.mem_cons_of_mem _ hp)
  have hb2 : Below lo w ((w.alloc (mBox g)).alloc (oBox 2 (k : Int))) := ((Below.refl lo w).alloc hlo _).alloc (by rw [World.size_alloc]; omega) _
  obtain ⟨Gz, hGz⟩ : ∃ Gz, (w.heap.size + 1, oBox 2 (k : Int)) :: (w.heap.size, mBox g) :: Fz = Gz := ⟨_, rfl⟩
  rw [hGz] at h2 hm1 hm2 hm3
  have HM1 := Lib.hid hm1
  have HM3 := Lib.hid hm3
  have HB2 := Lib.hid hb2
  have wn : IntKind.i64.wrap (k : Int) = (k : Int) := IntWalk.i64_in _ (by omega)
  have HS := Lib.hid (toStart_any 2 k (by simp; omega) (by have := open_len 0 L; omega) h2)
  have HL : Hid ((L ++ [((2 : Int), (Sum.inr k : Int ⊕ Nat))]).map pendC = L.map pendC ++ [(2, 0)] ∧ openC 0 (L ++ [((2 : Int), (Sum.inr k : Int ⊕ Nat))]) = openC 0 L ++ [((L.map pendC).length, k)]) := Lib.hid (by simp [pendC, openC_app, openC])
  obtain ⟨L2, hL2⟩ : ∃ L2, L.map pendC = L2 := ⟨_, rfl⟩
  obtain ⟨C2, hC2⟩ : ∃ C2, openC 0 L = C2 := ⟨_, rfl⟩
  clear h h2 hm1 hm2 hm3 hb2 hGz hlo hL hL2 hC2
  go_enter Tryz.func76, Tryz.ntmps76
  go_wp2_with fail
  refine HS.out.mono ?_
  rintro e w3 ⟨rfl, ⟨Hz, hz, h3⟩, hb3⟩
  have HZ := Lib.hid hz
  have HB3 := Lib.hid (HB2.out.trans hb3)
  have H3 := Lib.hid h3
  clear h3 hb3 HS HB2 hz
  go_wp2_with fail
  go_end0
  exact ⟨rfl, ⟨Hz, fun p hp => HZ.out p (HM3.out p hp), by rw [HL.out.1, HL.out.2]; exact H3.out⟩, HB3.out⟩
set_option maxRecDepth 100000 in
set_option maxHeartbeats 2000000 in
theorem op_if (n : Int) (hL : L.length ≤ 2000) (hE : E.length ≤ 2000) (h : MkAt lo g w Fz (L.map pendC) E (openC 0 L) st) :
    Calls Tryz.prog 76 #[.pointer (some ⟨g, 0, none⟩), .agg #[.int .i64 3, .int .i32 n]] w (OpEnd lo g w Fz ⟨L ++ [(4, .inl 0)], E ++ [.past L.length]⟩ st) := by
  have hlo := h.lows
  have h2 := (h.hold (mBox g)).hold (oBox 3 n)
  rw [World.size_alloc] at h2
  have hm1 : (w.heap.size, mBox g) ∈ (w.heap.size + 1, oBox 3 n) :: (w.heap.size, mBox g) :: Fz := by simp
  have hm2 : (w.heap.size + 1, oBox 3 n) ∈ (w.heap.size + 1, oBox 3 n) :: (w.heap.size, mBox g) :: Fz := by simp
  have hm3 : ∀ p ∈ Fz, p ∈ (w.heap.size + 1, oBox 3 n) :: (w.heap.size, mBox g) :: Fz := fun p hp => List.mem_cons_of_mem _ (List.mem_cons_of_mem _ hp)
  have hb2 : Below lo w ((w.alloc (mBox g)).alloc (oBox 3 n)) := ((Below.refl lo w).alloc hlo _).alloc (by rw [World.size_alloc]; omega) _
  obtain ⟨Gz, hGz⟩ : ∃ Gz, (w.heap.size + 1, oBox 3 n) :: (w.heap.size, mBox g) :: Fz = Gz := ⟨_, rfl⟩
  rw [hGz] at h2 hm1 hm2 hm3
  have HM1 := Lib.hid hm1
  have HM3 := Lib.hid hm3
  have HB2 := Lib.hid hb2
  have HS := Lib.hid (past_any 4 (by simp; omega) (by omega) h2)
  have HL : Hid ((L ++ [((4 : Int), (Sum.inl 0 : Int ⊕ Nat))]).map pendC = L.map pendC ++ [(4, 0)] ∧ openC 0 (L ++ [((4 : Int), (Sum.inl 0 : Int ⊕ Nat))]) = openC 0 L ∧ (L.map pendC).length = L.length) := Lib.hid (by simp [pendC, openC_app, openC])
  obtain ⟨L2, hL2⟩ : ∃ L2, L.map pendC = L2 := ⟨_, rfl⟩
  obtain ⟨C2, hC2⟩ : ∃ C2, openC 0 L = C2 := ⟨_, rfl⟩
  clear h h2 hm1 hm2 hm3 hb2 hGz hlo hL hE hL2 hC2
  go_enter Tryz.func76, Tryz.ntmps76
  go_wp2_with fail
  refine HS.out.mono ?_
  rintro e w3 ⟨rfl, ⟨Hz, hz, h3⟩, hb3⟩
  have HZ := Lib.hid hz
  have HB3 := Lib.hid (HB2.out.trans hb3)
  have H3 := Lib.hid h3
  clear h3 hb3 HS HB2 hz
  go_wp2_with fail
  go_end0
  exact ⟨rfl, ⟨Hz, fun p hp => HZ.out p (HM3.out p hp), by rw [HL.out.1, HL.out.2.1]; have := H3.out; rw [HL.out.2.2] at this; exact this⟩, HB3.out⟩
set_option maxRecDepth 100000 in
set_option maxHeartbeats 2000000 in
theorem op_unless (n : Int) (hL : L.length ≤ 2000) (hE : E.length ≤ 2000) (h : MkAt lo g w Fz (L.map pendC) E (openC 0 L) st) :
    Calls Tryz.prog 76 #[.pointer (some ⟨g, 0, none⟩), .agg #[.int .i64 4, .int .i32 n]] w (OpEnd lo g w Fz ⟨L ++ [(5, .inl 0)], E ++ [.past L.length]⟩ st) := by
  have hlo := h.lows
  have h2 := (h.hold (mBox g)).hold (oBox 4 n)
  rw [World.size_alloc] at h2
  have hm1 : (w.heap.size, mBox g) ∈ (w.heap.size + 1, oBox 4 n) :: (w.heap.size, mBox g) :: Fz := by simp
  have hm2 : (w.heap.size + 1, oBox 4 n) ∈ (w.heap.size + 1, oBox 4 n) :: (w.heap.size, mBox g) :: Fz := by simp
  have hm3 : ∀ p ∈ Fz, p ∈ (w.heap.size + 1, oBox 4 n) :: (w.heap.size, mBox g) :: Fz := fun p hp => List.mem_cons_of_mem _ (List.mem_cons_of_mem _ hp)
  have hb2 : Below lo w ((w.alloc (mBox g)).alloc (oBox 4 n)) := ((Below.refl lo w).alloc hlo _).alloc (by rw [World.size_alloc]; omega) _
  obtain ⟨Gz, hGz⟩ : ∃ Gz, (w.heap.size + 1, oBox 4 n) :: (w.heap.size, mBox g) :: Fz = Gz := ⟨_, rfl⟩
  rw [hGz] at h2 hm1 hm2 hm3
  have HM1 := Lib.hid hm1
  have HM3 := Lib.hid hm3
  have HB2 := Lib.hid hb2
  have HS := Lib.hid (past_any 5 (by simp; omega) (by omega) h2)
  have HL : Hid ((L ++ [((5 : Int), (Sum.inl 0 : Int ⊕ Nat))]).map pendC = L.map pendC ++ [(5, 0)] ∧ openC 0 (L ++ [((5 : Int), (Sum.inl 0 : Int ⊕ Nat))]) = openC 0 L ∧ (L.map pendC).length = L.length) := Lib.hid (by simp [pendC, openC_app, openC])
  obtain ⟨L2, hL2⟩ : ∃ L2, L.map pendC = L2 := ⟨_, rfl⟩
  obtain ⟨C2, hC2⟩ : ∃ C2, openC 0 L = C2 := ⟨_, rfl⟩
  clear h h2 hm1 hm2 hm3 hb2 hGz hlo hL hE hL2 hC2
  go_enter Tryz.func76, Tryz.ntmps76
  go_wp2_with fail
  refine HS.out.mono ?_
  rintro e w3 ⟨rfl, ⟨Hz, hz, h3⟩, hb3⟩
  have HZ := Lib.hid hz
  have HB3 := Lib.hid (HB2.out.trans hb3)
  have H3 := Lib.hid h3
  clear h3 hb3 HS HB2 hz
  go_wp2_with fail
  go_end0
  exact ⟨rfl, ⟨Hz, fun p hp => HZ.out p (HM3.out p hp), by rw [HL.out.1, HL.out.2.1]; have := H3.out; rw [HL.out.2.2] at this; exact this⟩, HB3.out⟩
set_option maxRecDepth 100000 in
set_option maxHeartbeats 2000000 in
theorem op_for (n : Int) (hL : L.length ≤ 2000) (hE : E.length ≤ 2000) (h : MkAt lo g w Fz (L.map pendC) E (openC 0 L) st) :
    Calls Tryz.prog 76 #[.pointer (some ⟨g, 0, none⟩), .agg #[.int .i64 6, .int .i32 n]] w (OpEnd lo g w Fz ⟨L ++ [(6, .inl 0)], E ++ [.again (L.length + 1)]⟩ st) := by
  have hlo := h.lows
  have h2 := (h.hold (mBox g)).hold (oBox 6 n)
  rw [World.size_alloc] at h2
  have hm1 : (w.heap.size, mBox g) ∈ (w.heap.size + 1, oBox 6 n) :: (w.heap.size, mBox g) :: Fz := by simp
  have hm2 : (w.heap.size + 1, oBox 6 n) ∈ (w.heap.size + 1, oBox 6 n) :: (w.heap.size, mBox g) :: Fz := by simp
  have hm3 : ∀ p ∈ Fz, p ∈ (w.heap.size + 1, oBox 6 n) :: (w.heap.size, mBox g) :: Fz := fun p hp => List.mem_cons_of_mem _ (List.mem_cons_of_mem _ hp)
  have hb2 : Below lo w ((w.alloc (mBox g)).alloc (oBox 6 n)) := ((Below.refl lo w).alloc hlo _).alloc (by rw [World.size_alloc]; omega) _
  obtain ⟨Gz, hGz⟩ : ∃ Gz, (w.heap.size + 1, oBox 6 n) :: (w.heap.size, mBox g) :: Fz = Gz := ⟨_, rfl⟩
  rw [hGz] at h2 hm1 hm2 hm3
  have HM1 := Lib.hid hm1
  have HM3 := Lib.hid hm3
  have HB2 := Lib.hid hb2
  have HS := Lib.hid (mstep_any 6 0 (by simp; omega) h2)
  have HL : Hid ((L ++ [((6 : Int), (Sum.inl 0 : Int ⊕ Nat))]).map pendC = L.map pendC ++ [(6, 0)] ∧ openC 0 (L ++ [((6 : Int), (Sum.inl 0 : Int ⊕ Nat))]) = openC 0 L ∧ (L.map pendC ++ [((6 : Int), (0 : Int))]).length = L.length + 1) := Lib.hid (by simp [pendC, openC_app, openC])
  have HE := Lib.hid hE
  obtain ⟨L3, hL3⟩ : ∃ L3, L.map pendC ++ [((6 : Int), (0 : Int))] = L3 := ⟨_, rfl⟩
  rw [hL3] at HS HL
  obtain ⟨C2, hC2⟩ : ∃ C2, openC 0 L = C2 := ⟨_, rfl⟩
  rw [hC2] at HS HL
  have hln : L.length ≤ 2000 := hL
  obtain ⟨N, hN⟩ : ∃ N, L.length = N := ⟨_, rfl⟩
  rw [hN] at HL hln
  have HN := Lib.hid hN
  have HE3 : Hid (∀ w' Kz, MkAt lo g w' Kz L3 (E ++ [.again (N + 1)]) C2 st → MkAt lo g w' Kz ((L ++ [((6 : Int), (Sum.inl 0 : Int ⊕ Nat))]).map pendC) (E ++ [.again (L.length + 1)]) (openC 0 (L ++ [((6 : Int), (Sum.inl 0 : Int ⊕ Nat))])) st) := Lib.hid (fun w' Kz hh => by rw [HL.out.1, HL.out.2.1, HN.out]; exact hh)
  clear h h2 hm1 hm2 hm3 hb2 hGz hlo hL hE hL3 hC2 hN
  go_enter Tryz.func76, Tryz.ntmps76
  go_wp2_with fail
  refine HS.out.mono ?_
  rintro e w3 ⟨rfl, h3, hb3⟩
  obtain ⟨q0, lz⟩ := h3.cell HM1.out
  obtain ⟨A3, cap3, q3, lg⟩ := h3.len
  rw [HL.out.2.2] at q3
  have h4 := h3.hold (nBox ((N + 1 : Nat) : Int))
  have hlo3 := h3.lows
  have HB3 := Lib.hid ((HB2.out.trans hb3).trans ((Below.refl lo w3).alloc hlo3 (nBox ((N + 1 : Nat) : Int))))
  have hce : EndIs ((w3.heap.size, nBox ((N + 1 : Nat) : Int)) :: Gz) g (.func (.func 138) #[] #[.pointer (some ⟨w.heap.size, 0, none⟩), .pointer (some ⟨w3.heap.size, 0, none⟩)]) (.again (N + 1)) := ⟨_, _, List.mem_cons_of_mem _ HM1.out, by simp, rfl⟩
  have HP := Lib.hid (mpush_any hce (by have := HE.out; omega) h4)
  have HM4 : Hid (∀ p ∈ Fz, p ∈ (w3.heap.size, nBox ((N + 1 : Nat) : Int)) :: Gz) := Lib.hid (fun p hp => List.mem_cons_of_mem _ (HM3.out p hp))
  obtain ⟨Kz, hKz⟩ : ∃ Kz, (w3.heap.size, nBox ((N + 1 : Nat) : Int)) :: Gz = Kz := ⟨_, rfl⟩
  rw [hKz] at HP HM4
  have hln2 : N + 1 ≤ 2001 := by omega
  have q0' : (w3.alloc (nBox ((N + 1 : Nat) : Int))).cell? ⟨w.heap.size, 0, none⟩ = some (.pointer (some ⟨g, 0, none⟩)) := (h4.cell (List.mem_cons_of_mem _ HM1.out)).1
  clear h3 hb3 h4 hce hKz hlo3 HS HB2
  go_wp2_with fail
  refine HP.out.mono ?_
  rintro e w4 ⟨rfl, h5, hb5⟩
  have H5 := Lib.hid (HE3.out _ _ h5)
  have HB5 := Lib.hid (HB3.out.trans hb5)
  clear h5 hb5 HP HB3 q0 q3 q0'
  go_wp2_with fail
  go_end0
  exact ⟨rfl, ⟨Kz, HM4.out, H5.out⟩, HB5.out⟩
set_option maxRecDepth 100000 in
set_option maxHeartbeats 2000000 in
theorem op_past5 (n : Int) (a : Nat) (ha : ∃ o x, L[a]? = some (o, .inl x)) (hL : L.length ≤ 2000) (hE : E.length ≤ 2000) (h : MkAt lo g w Fz (L.map pendC) (E ++ [.past a]) (openC 0 L) st) :
    Calls Tryz.prog 76 #[.pointer (some ⟨g, 0, none⟩), .agg #[.int .i64 5, .int .i32 n]] w (OpEnd lo g w Fz ⟨L.set a ((L[a]?.getD (0, .inl 0)).1, .inl L.length), E⟩ st) := by
  have hlo := h.lows
  have h2 := (h.hold (mBox g)).hold (oBox 5 n)
  rw [World.size_alloc] at h2
  have hm1 : (w.heap.size, mBox g) ∈ (w.heap.size + 1, oBox 5 n) :: (w.heap.size, mBox g) :: Fz := by simp
  have hm2 : (w.heap.size + 1, oBox 5 n) ∈ (w.heap.size + 1, oBox 5 n) :: (w.heap.size, mBox g) :: Fz := by simp
  have hm3 : ∀ p ∈ Fz, p ∈ (w.heap.size + 1, oBox 5 n) :: (w.heap.size, mBox g) :: Fz := fun p hp => List.mem_cons_of_mem _ (List.mem_cons_of_mem _ hp)
  have hb2 : Below lo w ((w.alloc (mBox g)).alloc (oBox 5 n)) := ((Below.refl lo w).alloc hlo _).alloc (by rw [World.size_alloc]; omega) _
  obtain ⟨Gz, hGz⟩ : ∃ Gz, (w.heap.size + 1, oBox 5 n) :: (w.heap.size, mBox g) :: Fz = Gz := ⟨_, rfl⟩
  rw [hGz] at h2 hm1 hm2 hm3
  have HM1 := Lib.hid hm1
  have HM3 := Lib.hid hm3
  have HB2 := Lib.hid hb2
  obtain ⟨o, x, hax⟩ := ha
  have hal : a < L.length := (List.getElem?_eq_some_iff.1 hax).1
  have hax2 : L[a] = (o, .inl x) := (List.getElem?_eq_some_iff.1 hax).2
  have HP := Lib.hid (mpop_any (by omega) h2)
  have hal2 : a < (L.map pendC).length := by simpa using hal
  have HL : Hid ((L.set a ((L[a]?.getD (0, .inl 0)).1, .inl (L.length : Int))).map pendC = (L.map pendC).set a (((L.map pendC)[a]'hal2).1, ((L.map pendC).length : Int)) ∧ openC 0 (L.set a ((L[a]?.getD (0, .inl 0)).1, .inl (L.length : Int))) = openC 0 L) := Lib.hid (by
    refine ⟨?_, open_set L a 0 o _ x _ hax⟩
    rw [hax, map_set_pend]
    simp [hax2, pendC])
  have HAL := Lib.hid hal2
  have HLL : Hid ((L.map pendC).length ≤ 3000) := Lib.hid (by simp; omega)
  obtain ⟨L2, hL2⟩ : ∃ L2, L.map pendC = L2 := ⟨_, rfl⟩
  obtain ⟨C2, hC2⟩ : ∃ C2, openC 0 L = C2 := ⟨_, rfl⟩
  have HPE := Lib.hid (fun bm ba w3 (h1 : (bm, mBox g) ∈ Gz) (h2 : (ba, nBox (a : Int)) ∈ Gz) h3 => pastend_any (w := w3) (E := E) (C := openC 0 L) (st := st) (lo := lo) h1 h2 HAL.out HLL.out h3)
  have HFIN : Hid (∀ w', MkAt lo g w' Gz ((L.map pendC).set a (((L.map pendC)[a]'hal2).1, ((L.map pendC).length : Int))) E (openC 0 L) st → MkAt lo g w' Gz ((L.set a ((L[a]?.getD (0, .inl 0)).1, .inl (L.length : Int))).map pendC) E (openC 0 (L.set a ((L[a]?.getD (0, .inl 0)).1, .inl (L.length : Int)))) st) := Lib.hid (fun w' hh => by rw [HL.out.1, HL.out.2]; exact hh)
  clear h h2 hm1 hm2 hm3 hb2 hGz hlo hL hE hL2 hC2 hax hax2 HL
  go_enter Tryz.func76, Tryz.ntmps76
  go_wp2_with fail
  refine HP.out.mono ?_
  rintro e w3 ⟨v, rfl, ⟨bm, ba, hbm, hba, rfl⟩, h3, hb3⟩
  have HPE2 := Lib.hid (HPE.out bm ba w3 hbm hba h3)
  have HB3 := Lib.hid (HB2.out.trans hb3)
  clear h3 hb3 hbm hba HP HB2 HPE
  go_wp2_with fail
  refine HPE2.out.mono ?_
  rintro e w4 ⟨rfl, h4, hb4⟩
  have H4 := Lib.hid (HFIN.out _ h4)
  have HB4 := Lib.hid (HB3.out.trans hb4)
  clear h4 hb4 HPE2 HB3 HFIN
  go_wp2_with fail
  go_end0
  exact ⟨rfl, ⟨Gz, HM3.out, H4.out⟩, HB4.out⟩
set_option maxRecDepth 100000 in
set_option maxHeartbeats 2000000 in
theorem op_again5 (n : Int) (a : Nat) (hL : L.length ≤ 2000) (hE : E.length ≤ 2000) (h : MkAt lo g w Fz (L.map pendC) (E ++ [.again a]) (openC 0 L) st) :
    Calls Tryz.prog 76 #[.pointer (some ⟨g, 0, none⟩), .agg #[.int .i64 5, .int .i32 n]] w (OpEnd lo g w Fz ⟨L ++ [(7, .inl (a : Int))], E⟩ st) := by
  have hlo := h.lows
  have h2 := (h.hold (mBox g)).hold (oBox 5 n)
  rw [World.size_alloc] at h2
  have hm1 : (w.heap.size, mBox g) ∈ (w.heap.size + 1, oBox 5 n) :: (w.heap.size, mBox g) :: Fz := by simp
  have hm2 : (w.heap.size + 1, oBox 5 n) ∈ (w.heap.size + 1, oBox 5 n) :: (w.heap.size, mBox g) :: Fz := by simp
  have hm3 : ∀ p ∈ Fz, p ∈ (w.heap.size + 1, oBox 5 n) :: (w.heap.size, mBox g) :: Fz := fun p hp => List.mem_cons_of_mem _ (List.mem_cons_of_mem _ hp)
  have hb2 : Below lo w ((w.alloc (mBox g)).alloc (oBox 5 n)) := ((Below.refl lo w).alloc hlo _).alloc (by rw [World.size_alloc]; omega) _
  obtain ⟨Gz, hGz⟩ : ∃ Gz, (w.heap.size + 1, oBox 5 n) :: (w.heap.size, mBox g) :: Fz = Gz := ⟨_, rfl⟩
  rw [hGz] at h2 hm1 hm2 hm3
  have HM1 := Lib.hid hm1
  have HM3 := Lib.hid hm3
  have HB2 := Lib.hid hb2
  have HP := Lib.hid (mpop_any (by omega) h2)
  have HL : Hid ((L ++ [((7 : Int), (Sum.inl (a : Int) : Int ⊕ Nat))]).map pendC = L.map pendC ++ [(7, (a : Int))] ∧ openC 0 (L ++ [((7 : Int), (Sum.inl (a : Int) : Int ⊕ Nat))]) = openC 0 L) := Lib.hid (by simp [pendC, openC_app, openC])
  have HLL : Hid ((L.map pendC).length ≤ 3000) := Lib.hid (by simp; omega)
  have HPE := Lib.hid (fun bm ba w3 (h1 : (bm, mBox g) ∈ Gz) (h2 : (ba, nBox (a : Int)) ∈ Gz) h3 => againend_any (w := w3) (E := E) (C := openC 0 L) (st := st) (lo := lo) h1 h2 HLL.out h3)
  have HFIN : Hid (∀ w', MkAt lo g w' Gz (L.map pendC ++ [(7, (a : Int))]) E (openC 0 L) st → MkAt lo g w' Gz ((L ++ [((7 : Int), (Sum.inl (a : Int) : Int ⊕ Nat))]).map pendC) E (openC 0 (L ++ [((7 : Int), (Sum.inl (a : Int) : Int ⊕ Nat))])) st) := Lib.hid (fun w' hh => by rw [HL.out.1, HL.out.2]; exact hh)
  clear h h2 hm1 hm2 hm3 hb2 hGz hlo hL hE HL
  go_enter Tryz.func76, Tryz.ntmps76
  go_wp2_with fail
  refine HP.out.mono ?_
  rintro e w3 ⟨v, rfl, ⟨bm, ba, hbm, hba, rfl⟩, h3, hb3⟩
  have HPE2 := Lib.hid (HPE.out bm ba w3 hbm hba h3)
  have HB3 := Lib.hid (HB2.out.trans hb3)
  clear h3 hb3 hbm hba HP HB2 HPE
  go_wp2_with fail
  refine HPE2.out.mono ?_
  rintro e w4 ⟨rfl, h4, hb4⟩
  have H4 := Lib.hid (HFIN.out _ h4)
  have HB4 := Lib.hid (HB3.out.trans hb4)
  clear h4 hb4 HPE2 HB3 HFIN
  go_wp2_with fail
  go_end0
  exact ⟨rfl, ⟨Gz, HM3.out, H4.out⟩, HB4.out⟩
set_option maxRecDepth 100000 in
set_option maxHeartbeats 2000000 in
theorem op_past7 (n : Int) (a : Nat) (ha : ∃ o x, L[a]? = some (o, .inl x)) (hL : L.length ≤ 2000) (hE : E.length ≤ 2000) (h : MkAt lo g w Fz (L.map pendC) (E ++ [.past a]) (openC 0 L) st) :
    Calls Tryz.prog 76 #[.pointer (some ⟨g, 0, none⟩), .agg #[.int .i64 7, .int .i32 n]] w (OpEnd lo g w Fz ⟨L.set a ((L[a]?.getD (0, .inl 0)).1, .inl L.length), E⟩ st) := by
  have hlo := h.lows
  have h2 := (h.hold (mBox g)).hold (oBox 7 n)
  rw [World.size_alloc] at h2
  have hm1 : (w.heap.size, mBox g) ∈ (w.heap.size + 1, oBox 7 n) :: (w.heap.size, mBox g) :: Fz := by simp
  have hm2 : (w.heap.size + 1, oBox 7 n) ∈ (w.heap.size + 1, oBox 7 n) :: (w.heap.size, mBox g) :: Fz := by simp
  have hm3 : ∀ p ∈ Fz, p ∈ (w.heap.size + 1, oBox 7 n) :: (w.heap.size, mBox g) :: Fz := fun p hp => List.mem_cons_of_mem _ (List.mem_cons_of_mem _ hp)
  have hb2 : Below lo w ((w.alloc (mBox g)).alloc (oBox 7 n)) := ((Below.refl lo w).alloc hlo _).alloc (by rw [World.size_alloc]; omega) _
  obtain ⟨Gz, hGz⟩ : ∃ Gz, (w.heap.size + 1, oBox 7 n) :: (w.heap.size, mBox g) :: Fz = Gz := ⟨_, rfl⟩
  rw [hGz] at h2 hm1 hm2 hm3
  have HM1 := Lib.hid hm1
  have HM3 := Lib.hid hm3
  have HB2 := Lib.hid hb2
  obtain ⟨o, x, hax⟩ := ha
  have hal : a < L.length := (List.getElem?_eq_some_iff.1 hax).1
  have hax2 : L[a] = (o, .inl x) := (List.getElem?_eq_some_iff.1 hax).2
  have HP := Lib.hid (mpop_any (by omega) h2)
  have hal2 : a < (L.map pendC).length := by simpa using hal
  have HL : Hid ((L.set a ((L[a]?.getD (0, .inl 0)).1, .inl (L.length : Int))).map pendC = (L.map pendC).set a (((L.map pendC)[a]'hal2).1, ((L.map pendC).length : Int)) ∧ openC 0 (L.set a ((L[a]?.getD (0, .inl 0)).1, .inl (L.length : Int))) = openC 0 L) := Lib.hid (by
    refine ⟨?_, open_set L a 0 o _ x _ hax⟩
    rw [hax, map_set_pend]
    simp [hax2, pendC])
  have HAL := Lib.hid hal2
  have HLL : Hid ((L.map pendC).length ≤ 3000) := Lib.hid (by simp; omega)
  obtain ⟨L2, hL2⟩ : ∃ L2, L.map pendC = L2 := ⟨_, rfl⟩
  obtain ⟨C2, hC2⟩ : ∃ C2, openC 0 L = C2 := ⟨_, rfl⟩
  have HPE := Lib.hid (fun bm ba w3 (h1 : (bm, mBox g) ∈ Gz) (h2 : (ba, nBox (a : Int)) ∈ Gz) h3 => pastend_any (w := w3) (E := E) (C := openC 0 L) (st := st) (lo := lo) h1 h2 HAL.out HLL.out h3)
  have HFIN : Hid (∀ w', MkAt lo g w' Gz ((L.map pendC).set a (((L.map pendC)[a]'hal2).1, ((L.map pendC).length : Int))) E (openC 0 L) st → MkAt lo g w' Gz ((L.set a ((L[a]?.getD (0, .inl 0)).1, .inl (L.length : Int))).map pendC) E (openC 0 (L.set a ((L[a]?.getD (0, .inl 0)).1, .inl (L.length : Int)))) st) := Lib.hid (fun w' hh => by rw [HL.out.1, HL.out.2]; exact hh)
  clear h h2 hm1 hm2 hm3 hb2 hGz hlo hL hE hL2 hC2 hax hax2 HL
  go_enter Tryz.func76, Tryz.ntmps76
  go_wp2_with fail
  refine HP.out.mono ?_
  rintro e w3 ⟨v, rfl, ⟨bm, ba, hbm, hba, rfl⟩, h3, hb3⟩
  have HPE2 := Lib.hid (HPE.out bm ba w3 hbm hba h3)
  have HB3 := Lib.hid (HB2.out.trans hb3)
  clear h3 hb3 hbm hba HP HB2 HPE
  go_wp2_with fail
  refine HPE2.out.mono ?_
  rintro e w4 ⟨rfl, h4, hb4⟩
  have H4 := Lib.hid (HFIN.out _ h4)
  have HB4 := Lib.hid (HB3.out.trans hb4)
  clear h4 hb4 HPE2 HB3 HFIN
  go_wp2_with fail
  go_end0
  exact ⟨rfl, ⟨Gz, HM3.out, H4.out⟩, HB4.out⟩
set_option maxRecDepth 100000 in
set_option maxHeartbeats 2000000 in
theorem op_again7 (n : Int) (a : Nat) (hL : L.length ≤ 2000) (hE : E.length ≤ 2000) (h : MkAt lo g w Fz (L.map pendC) (E ++ [.again a]) (openC 0 L) st) :
    Calls Tryz.prog 76 #[.pointer (some ⟨g, 0, none⟩), .agg #[.int .i64 7, .int .i32 n]] w (OpEnd lo g w Fz ⟨L ++ [(7, .inl (a : Int))], E⟩ st) := by
  have hlo := h.lows
  have h2 := (h.hold (mBox g)).hold (oBox 7 n)
  rw [World.size_alloc] at h2
  have hm1 : (w.heap.size, mBox g) ∈ (w.heap.size + 1, oBox 7 n) :: (w.heap.size, mBox g) :: Fz := by simp
  have hm2 : (w.heap.size + 1, oBox 7 n) ∈ (w.heap.size + 1, oBox 7 n) :: (w.heap.size, mBox g) :: Fz := by simp
  have hm3 : ∀ p ∈ Fz, p ∈ (w.heap.size + 1, oBox 7 n) :: (w.heap.size, mBox g) :: Fz := fun p hp => List.mem_cons_of_mem _ (List.mem_cons_of_mem _ hp)
  have hb2 : Below lo w ((w.alloc (mBox g)).alloc (oBox 7 n)) := ((Below.refl lo w).alloc hlo _).alloc (by rw [World.size_alloc]; omega) _
  obtain ⟨Gz, hGz⟩ : ∃ Gz, (w.heap.size + 1, oBox 7 n) :: (w.heap.size, mBox g) :: Fz = Gz := ⟨_, rfl⟩
  rw [hGz] at h2 hm1 hm2 hm3
  have HM1 := Lib.hid hm1
  have HM3 := Lib.hid hm3
  have HB2 := Lib.hid hb2
  have HP := Lib.hid (mpop_any (by omega) h2)
  have HL : Hid ((L ++ [((7 : Int), (Sum.inl (a : Int) : Int ⊕ Nat))]).map pendC = L.map pendC ++ [(7, (a : Int))] ∧ openC 0 (L ++ [((7 : Int), (Sum.inl (a : Int) : Int ⊕ Nat))]) = openC 0 L) := Lib.hid (by simp [pendC, openC_app, openC])
  have HLL : Hid ((L.map pendC).length ≤ 3000) := Lib.hid (by simp; omega)
  have HPE := Lib.hid (fun bm ba w3 (h1 : (bm, mBox g) ∈ Gz) (h2 : (ba, nBox (a : Int)) ∈ Gz) h3 => againend_any (w := w3) (E := E) (C := openC 0 L) (st := st) (lo := lo) h1 h2 HLL.out h3)
  have HFIN : Hid (∀ w', MkAt lo g w' Gz (L.map pendC ++ [(7, (a : Int))]) E (openC 0 L) st → MkAt lo g w' Gz ((L ++ [((7 : Int), (Sum.inl (a : Int) : Int ⊕ Nat))]).map pendC) E (openC 0 (L ++ [((7 : Int), (Sum.inl (a : Int) : Int ⊕ Nat))])) st) := Lib.hid (fun w' hh => by rw [HL.out.1, HL.out.2]; exact hh)
  clear h h2 hm1 hm2 hm3 hb2 hGz hlo hL hE HL
  go_enter Tryz.func76, Tryz.ntmps76
  go_wp2_with fail
  refine HP.out.mono ?_
  rintro e w3 ⟨v, rfl, ⟨bm, ba, hbm, hba, rfl⟩, h3, hb3⟩
  have HPE2 := Lib.hid (HPE.out bm ba w3 hbm hba h3)
  have HB3 := Lib.hid (HB2.out.trans hb3)
  clear h3 hb3 hbm hba HP HB2 HPE
  go_wp2_with fail
  refine HPE2.out.mono ?_
  rintro e w4 ⟨rfl, h4, hb4⟩
  have H4 := Lib.hid (HFIN.out _ h4)
  have HB4 := Lib.hid (HB3.out.trans hb4)
  clear h4 hb4 HPE2 HB3 HFIN
  go_wp2_with fail
  go_end0
  exact ⟨rfl, ⟨Gz, HM3.out, H4.out⟩, HB4.out⟩
/-- An op by itself. -/
theorem op_any {m m2 : Mk} {k n : Int} (hn0 : -2147483648 ≤ n) (hn1 : n ≤ 2147483647) (hok : okOp (k, n) = true) (hm : MkOk m) (hop : opM m (k, n) = some m2) (hL : m.L.length ≤ 2000) (hE : m.E.length ≤ 2000) (h : MkAt lo g w Fz (m.L.map pendC) m.E (openC 0 m.L) st) :
    Calls Tryz.prog 76 #[.pointer (some ⟨g, 0, none⟩), .agg #[.int .i64 k, .int .i32 n]] w (OpEnd lo g w Fz m2 st) := by
  obtain ⟨L, E⟩ := m
  have hk : (k = 0 ∨ k = 1 ∨ (k = 2 ∧ 0 ≤ n ∧ n ≤ 23)) ∨ k = 3 ∨ k = 4 ∨ k = 6 ∨ (k = 5 ∨ k = 7) ∨ k = 8 := by
    unfold okOp at hok
    by_cases h0 : k = 0
    · exact .inl (.inl h0)
    · by_cases h1 : k = 1
      · exact .inl (.inr (.inl h1))
      · by_cases h2 : k = 2
        · rw [if_neg h0, if_neg h1, if_pos h2, decide_eq_true_eq] at hok
          exact .inl (.inr (.inr ⟨h2, hok⟩))
        · rw [if_neg h0, if_neg h1, if_neg h2, decide_eq_true_eq] at hok
          right
          simp only at hok
          omega
  rcases hk with (rfl | rfl | ⟨rfl, h0, h1⟩) | rfl | rfl | rfl | h5 | rfl
  · rw [opM0] at hop; injection hop with hop; subst hop; exact op_lit n hn0 hn1 hL hE h
  · rw [opM1] at hop; injection hop with hop; subst hop; exact op_prim n hn0 hn1 hL hE h
  · rw [opM2] at hop; injection hop with hop; subst hop
    obtain ⟨j, rfl⟩ : ∃ j : Nat, n = (j : Int) := ⟨n.toNat, by omega⟩
    exact op_call j (by omega) hL hE h
  · rw [opM3] at hop; injection hop with hop; subst hop; exact op_if n hL hE h
  · rw [opM4] at hop; injection hop with hop; subst hop; exact op_unless n hL hE h
  · rw [opM6] at hop; injection hop with hop; subst hop; exact op_for n hL hE h
  · rcases List.eq_nil_or_concat E with rfl | ⟨E2, c, rfl⟩
    · rcases h5 with rfl | rfl <;> simp [opM] at hop
    · simp only [List.concat_eq_append] at hop hm hE h
      simp only [List.length_append, List.length_singleton] at hE
      cases c with
      | past a =>
        rw [opM5 _ _ _ _ _ h5] at hop
        injection hop with hop
        subst hop
        have ha := hm a (by simp)
        rcases h5 with rfl | rfl
        · exact op_past5 n a ha hL (by omega) h
        · exact op_past7 n a ha hL (by omega) h
      | again a =>
        rw [opM7 _ _ _ _ _ h5] at hop
        injection hop with hop
        subst hop
        rcases h5 with rfl | rfl
        · exact op_again5 n a hL (by omega) h
        · exact op_again7 n a hL (by omega) h
  · rw [opM8] at hop; injection hop with hop; subst hop; exact op_exit n hL hE h
end
end Go.Proofs.YtofikgjoiidhmaaGreatDoor

namespace Go.Proofs.YtofikgjoiidhmaaGreatDoor
open Go.RowKit Go

set_option maxRecDepth 100000 in
set_option maxHeartbeats 2000000 in
theorem ends_any (xs : List (Int × Int)) (v : Value) (w : World) (hr : RdS w v xs) : Calls Tryz.prog 74 #[v] w fun e w' => e = .returned (.bool (tailB xs)) ∧ Below w.heap.size w w' := by
  have hl62 : xs.length ≤ 4611686018427387904 := by
    obtain ⟨_, _, _, h, _⟩ := hr
    exact h
  obtain ⟨A, cap, rfl⟩ := hr.form
  match xs, hr, hl62 with
  | [], hr, hl62 =>
    clear hr
    go_enter Tryz.func74, Tryz.ntmps74
    go_wp2_with fail
    go_ret
    exact ⟨rfl, by go_grown⟩
  | [o], hr, hl62 =>
    clear hr
    go_enter Tryz.func74, Tryz.ntmps74
    go_wp2_with fail
    go_ret
    exact ⟨rfl, by go_grown⟩
  | (k, n) :: (k2, n2) :: r, hr, hl62 =>
    obtain ⟨a, rfl, la, p0, p1⟩ := hr.item (i := 0) (by simp)
    obtain ⟨a2, e2, la2, r0, r1⟩ := hr.item (i := 1) (by simp)
    injection e2 with e2
    subst e2
    simp only [List.getElem_cons_zero, List.getElem_cons_succ] at p0 r0
    have ht : tailB ((k, n) :: (k2, n2) :: r) = ((k == 2) && (k2 == 8)) := by
      simp only [tailB]
      by_cases h1 : k = 2 <;> by_cases h2 : k2 = 8 <;> simp [h1, h2]
    rw [ht]
    obtain ⟨N, hN⟩ : ∃ N, ((k, n) :: (k2, n2) :: r).length = N := ⟨_, rfl⟩
    rw [hN] at hl62 ⊢
    have hN2 : 2 ≤ N := by rw [← hN]; simp
    have i1 : (1 : Int) < (N : Int) := by omega
    have i0 : (0 : Int) < (N : Int) := by omega
    have a0 : a.add 0 = a := by simp [Addr.add]
    simp only [Nat.zero_mul, Nat.one_mul, a0] at p0 r0
    have r0' : w.cell? ⟨a.block, a.off + 2, none⟩ = some (.int .i64 k2) := r0
    clear hr p1 r1 ht hN
    by_cases h1 : k = 2
    · subst h1
      have q1 : ((2 : Int) == 2) = true := by decide
      go_enter Tryz.func74, Tryz.ntmps74
      go_wp2_with fail
      go_ret
      exact ⟨by simp, by go_grown⟩
    · have q1 : (k == 2) = false := by simpa using h1
      rw [q1]
      go_enter Tryz.func74, Tryz.ntmps74
      go_wp2_with fail
      go_ret
      exact ⟨rfl, by go_grown⟩
/-- A list of ops with room for its length. -/
def RdR (w : World) (v : Value) (xs : List (Int × Int)) : Prop := RdS w v xs ∧ ∃ A cap, v = .slice A xs.length cap ∧ xs.length ≤ cap
theorem RdR.below {w w' : World} {v : Value} {xs : List (Int × Int)} (h : RdR w v xs) (hb : Below w.heap.size w w') : RdR w' v xs := ⟨h.1.below hb, h.2⟩
theorem RdR.low {w w' : World} {lo : Nat} {v : Value} {xs : List (Int × Int)} (h : RdR w v xs) (hl : ∀ a n c, v = .slice (some a) n c → 0 < n → a.block < lo) (hb : Below lo w w') : RdR w' v xs := by
  obtain ⟨⟨A, cap, rfl, hx, hc⟩, B, cap2, e9, hcap⟩ := h
  refine ⟨⟨A, cap, rfl, hx, fun i hi => ?_⟩, B, cap2, e9, hcap⟩
  obtain ⟨a, rfl, e2, e3, e4⟩ := hc i hi
  have hal := hl a _ _ rfl (by omega)
  exact ⟨a, rfl, by have := hb.size; omega, (hb.cell (by rw [addr_addb]; exact hal)).trans e3, (hb.cell (by rw [addr_addb, addr_addb]; exact hal)).trans e4⟩
theorem addrAdd2m (a : Addr) (i j : Nat) : (a.add i).add j = a.add (i + j) := by
  unfold Addr.add
  (repeat' split) <;> simp_all [Nat.add_assoc]
theorem RdR.drop {w : World} {a : Addr} {n cap : Nat} {xs : List (Int × Int)} (h : RdR w (.slice (some a) n cap) xs) (k : Nat) (hk : k ≤ xs.length) : RdR w (.slice (if cap = k then some a else some (a.add (k * 2))) (n - k) (cap - k)) (xs.drop k) := by
  obtain ⟨⟨A', cap', e, hl, h⟩, B, cap2, e9, hcap⟩ := h
  injection e with e1 e2 e3
  injection e9 with e4 e5 e6
  subst e1 e2 e3 e6
  have hlt : (xs.drop k).length = xs.length - k := List.length_drop
  refine ⟨⟨_, _, by rw [hlt], by omega, fun i hi => ?_⟩, _, _, by rw [hlt], by omega⟩
  rw [hlt] at hi
  obtain ⟨a2, e1, e2, e3, e4⟩ := h (k + i) (by omega)
  injection e1 with e1
  subst e1
  rw [if_neg (by omega)]
  refine ⟨a.add (k * 2), rfl, by rw [addr_addb]; exact e2, ?_, ?_⟩
  · rw [addrAdd2m, ← Nat.add_mul, e3, List.getElem_drop]
  · rw [addrAdd2m a (k * 2) (i * 2), ← Nat.add_mul, e4, List.getElem_drop]
/-- A slice of the rest lies where the whole lay. -/
theorem rest_low {lo k n c c9 d : Nat} {a : Addr} (hal : a.block < lo) : ∀ a2 n2 c2, Value.slice (if c9 = k then some a else some ⟨a.block, a.off + d, none⟩) n c = .slice (some a2) n2 c2 → a2.block < lo := by
  intro a2 n2 c2 e
  injection e with e1 e2 e3
  split at e1
  · injection e1 with e1; subst e1; exact hal
  · injection e1 with e1; subst e1; exact hal
theorem RdR.first {w : World} {A : Option Addr} {n cap : Nat} {o : Int × Int} {r : List (Int × Int)} (h : RdR w (.slice A n cap) (o :: r)) : ∃ a, A = some a ∧ n = r.length + 1 ∧ n ≤ cap ∧ w.cell? a = some (.int .i64 o.1) ∧ w.cell? ⟨a.block, a.off + 1, none⟩ = some (.int .i32 o.2) ∧ a.block < w.heap.size := by
  obtain ⟨h1, B, cap2, e9, hcap⟩ := h
  injection e9 with e4 e5 e6
  obtain ⟨a, rfl, lb, p0, p1⟩ := h1.item (i := 0) (by simp)
  have a0 : a.add 0 = a := by simp [Addr.add]
  simp only [Nat.zero_mul, a0, List.getElem_cons_zero] at p0 p1
  exact ⟨a, rfl, by simpa using e5, by rw [e5, e6]; exact hcap, p0, p1, lb⟩
section
variable {lo g : Nat} {Fz : List (Nat × Obj)} {st : List Int}
set_option maxRecDepth 100000 in
set_option maxHeartbeats 4000000 in
theorem body_run (tail : Bool) (xs : List (Int × Int)) (hx : xs.length ≤ 60) (hrg : ∀ o ∈ xs, -2147483648 ≤ o.2 ∧ o.2 ≤ 2147483647) (hok : xs.all okOp = true) (m m9 : Mk) (hm : MkOk m) (hL : m.L.length ≤ 1900) (hE : m.E.length ≤ 1900) (hb : bodyM tail xs m = some m9) (v : Value) (w : World) (hr : RdR w v xs) (hlo : ∀ a n c, v = .slice (some a) n c → 0 < n → a.block < lo) (h : MkAt lo g w Fz (m.L.map pendC) m.E (openC 0 m.L) st) :
    Calls Tryz.prog 32 #[.pointer (some ⟨g, 0, none⟩), v, .bool tail] w (OpEnd lo g w Fz m9 st) := by
  have HLO : Hid (∀ a n c, v = .slice (some a) n c → 0 < n → a.block < lo) := Lib.hid hlo
  obtain ⟨hr1, A, cap, rfl, hcap⟩ := hr
  have HST : Hid (∃ (r : List (Int × Int)) (m2 : Mk) (Gz : List (Nat × Obj)), RdR w (.slice A xs.length cap) r ∧ (∀ a n c, Value.slice A xs.length cap = .slice (some a) n c → 0 < n → a.block < lo) ∧ (∀ o ∈ r, -2147483648 ≤ o.2 ∧ o.2 ≤ 2147483647) ∧ r.all okOp = true ∧ MkOk m2 ∧ m2.L.length + r.length ≤ 1960 ∧ m2.E.length + r.length ≤ 1960 ∧ bodyM tail r m2 = some m9 ∧ (∀ p ∈ Fz, p ∈ Gz) ∧ MkAt lo g w Gz (m2.L.map pendC) m2.E (openC 0 m2.L) st ∧ Below lo w w ∧ r.length ≤ 60) := Lib.hid ⟨xs, m, Fz, ⟨hr1, A, cap, rfl, hcap⟩, hlo, hrg, hok, hm, by omega, by omega, hb, fun p hp => hp, h, Below.refl lo w, hx⟩
  have hn60 : xs.length ≤ 60 := hx
  obtain ⟨N, hN⟩ : ∃ N, xs.length = N := ⟨_, rfl⟩
  rw [hN] at HST hn60 ⊢
  clear hr1 hcap hrg hok hm hL hE hb hlo h HLO hx hN
  go_enter Tryz.func32, Tryz.ntmps32
  go_wp2_with fail
  go_loopw [1] (fun vb wr => ∃ (A2 : Option Addr) (n2 c2 : Nat), vb = .slice A2 n2 c2 ∧ n2 ≤ 60 ∧ Hid (∃ (r : List (Int × Int)) (m2 : Mk) (Gz : List (Nat × Obj)), RdR wr (.slice A2 n2 c2) r ∧ (∀ a n c, Value.slice A2 n2 c2 = .slice (some a) n c → 0 < n → a.block < lo) ∧ (∀ o ∈ r, -2147483648 ≤ o.2 ∧ o.2 ≤ 2147483647) ∧ r.all okOp = true ∧ MkOk m2 ∧ m2.L.length + r.length ≤ 1960 ∧ m2.E.length + r.length ≤ 1960 ∧ bodyM tail r m2 = some m9 ∧ (∀ p ∈ Fz, p ∈ Gz) ∧ MkAt lo g wr Gz (m2.L.map pendC) m2.E (openC 0 m2.L) st ∧ Below lo w wr ∧ r.length ≤ 60)) (fun vb _ => match vb with | .slice _ n _ => n | _ => 0)
  case atStart => exact ⟨A, N, cap, rfl, hn60, HST⟩
  case round =>
    clear HST
    obtain ⟨A2, n2, c2, rfl, hn2, HR⟩ := hrel
    obtain ⟨r, m2, Gz, h1, h2, h3, h4, h5, h6, h7, h8, h9, h10, h11, h12⟩ := HR.out
    clear HR
    cases r with
    | nil =>
      have hn0 : n2 = 0 := by
        obtain ⟨-, B, cap3, e, -⟩ := h1
        injection e
      subst hn0
      rw [bodyM_nil] at h8
      injection h8 with h8
      subst h8
      have HE : Hid (OpEnd lo g w Fz m2 st (.returned (.tuple #[])) wr) := Lib.hid ⟨rfl, ⟨Gz, h9, h10⟩, h11⟩
      clear h1 h2 h3 h4 h5 h6 h7 h9 h10 h11 h12
      go_wp2_with fail
      go_end0
      exact HE.out
    | cons o q =>
      obtain ⟨k, n⟩ := o
      obtain ⟨a, rfl, hn, hcap, p0, p1, la⟩ := h1.first
      simp only at p0 p1
      have H1 := Lib.hid h1
      have hal : a.block < lo := h2 a _ _ rfl (by omega)
      have hk := h3 (k, n) (List.mem_cons_self ..)
      have h3q : Hid (∀ o ∈ q, -2147483648 ≤ o.2 ∧ o.2 ≤ 2147483647) := Lib.hid (fun o ho => h3 o (List.mem_cons_of_mem _ ho))
      simp only [List.all_cons, Bool.and_eq_true] at h4
      simp only [List.length_cons] at h6 h7 h12
      have HOP : Hid (∀ m3, opM m2 (k, n) = some m3 → ∀ W, MkAt lo g W Gz (m2.L.map pendC) m2.E (openC 0 m2.L) st → Calls Tryz.prog 76 #[.pointer (some ⟨g, 0, none⟩), .agg #[.int .i64 k, .int .i32 n]] W fun e w' => e = .returned (.tuple #[]) ∧ (∃ Gz2, (∀ p ∈ Gz, p ∈ Gz2) ∧ MkAt lo g w' Gz2 (m3.L.map pendC) m3.E (openC 0 m3.L) st) ∧ Below lo W w') := Lib.hid (fun m3 hm3 W hW => op_any hk.1 hk.2 h4.1 h5 hm3 (by omega) (by omega) hW)
      cases htt : (tail && tailB ((k, n) :: q)) with
      | false =>
        rw [bodyM_op htt] at h8
        obtain ⟨m3, hm3⟩ : ∃ m3, opM m2 (k, n) = some m3 := by
          cases hh : opM m2 (k, n) with
          | none => rw [hh] at h8; cases h8
          | some m3 => exact ⟨m3, rfl⟩
        rw [hm3] at h8
        have HC := Lib.hid (HOP.out m3 hm3)
        have H10 := Lib.hid h10
        have HLO9 := Lib.hid h10.lows
        have hlen := opM_len hm3
        have H5 := Lib.hid (opM_ok h5 hm3)
        have H49 : Hid (q.all okOp = true ∧ bodyM tail q m3 = some m9 ∧ (∀ p ∈ Fz, p ∈ Gz) ∧ m3.L.length + q.length ≤ 1960 ∧ m3.E.length + q.length ≤ 1960 ∧ q.length ≤ 60) := Lib.hid ⟨h4.2, h8, h9, by omega, by omega, by omega⟩
        have HB := Lib.hid h11
        have HN := Lib.hid hn
        have HEN := Lib.hid (fun (ht : tail = true) => ends_any ((k, n) :: q) _ wr h1.1)
        have HTT := Lib.hid htt
        have HQ : Hid (((k, n) :: q).length - 1 = q.length ∧ ((k, n) :: q).drop 1 = q) := Lib.hid ⟨by simp, rfl⟩
        have i1 : (0 : Int) < (n2 : Int) := by omega
        have i2 : (1 : Int) ≤ (n2 : Int) := by omega
        have i3 : n2 ≤ c2 := hcap
        have hn1 : 1 ≤ n2 := by omega
        clear h1 h2 h3 h4 h5 h6 h7 h8 h9 h10 h11 h12 hm3 HOP hlen hk htt hn
        cases tail with
        | false =>
          clear HEN HTT
          go_wp2_with fail
          refine (HC.out _ H10.out).mono ?_
          rintro e w3 ⟨rfl, ⟨Hz, hz, h20⟩, hb20⟩
          have HR20 := Lib.hid ((H1.out.low (fun a2 n c e _ => by injection e with e1 e2 e3; injection e1 with e1; subst e1; exact hal) hb20).drop 1 (by simp))
          have H20 := Lib.hid h20
          have HZ := Lib.hid hz
          have HB20 := Lib.hid (HB.out.trans hb20)
          clear h20 hz hb20 HB H1 HC H10 HLO9
          go_wp2_with fail
          go_roundw
          case rel => exact ⟨_, n2 - 1, c2 - 1, rfl, by omega, Lib.hid ⟨q, m3, Hz, HR20.out, fun a n c e _ => rest_low hal a n c e, h3q.out, H49.out.1, H5.out, H49.out.2.2.2.1, H49.out.2.2.2.2.1, H49.out.2.1, fun p hp => HZ.out p (H49.out.2.2.1 p hp), H20.out, HB20.out, H49.out.2.2.2.2.2⟩⟩
          case measure => show n2 - 1 < n2; omega
        | true =>
          have htb := HTT.out
          rw [Bool.true_and] at htb
          have HEN2 := HEN.out rfl
          rw [htb] at HEN2
          have HE3 := Lib.hid HEN2
          clear HEN HTT htb HEN2
          go_wp2_with fail
          refine HE3.out.mono ?_
          rintro e w2 ⟨rfl, hb2⟩
          have H1b := Lib.hid (H1.out.below hb2)
          have H10b := Lib.hid (H10.out.below hb2)
          have HBb := Lib.hid (HB.out.trans (hb2.mono HLO9.out))
          have q0 : w2.cell? a = some (.int .i64 k) := (hb2.cell la).trans p0
          have q1 : w2.cell? ⟨a.block, a.off + 1, none⟩ = some (.int .i32 n) := (hb2.cell (p := ⟨a.block, a.off + 1, none⟩) la).trans p1
          clear hb2 H1 H10 HB HE3 p0 p1 HLO9
          go_wp2_with fail
          refine (HC.out _ H10b.out).mono ?_
          rintro e w3 ⟨rfl, ⟨Hz, hz, h20⟩, hb20⟩
          have HR20 := Lib.hid ((H1b.out.low (fun a2 n c e _ => by injection e with e1 e2 e3; injection e1 with e1; subst e1; exact hal) hb20).drop 1 (by simp))
          have H20 := Lib.hid h20
          have HZ := Lib.hid hz
          have HB20 := Lib.hid (HBb.out.trans hb20)
          clear h20 hz hb20 HBb H1b HC H10b q0 q1
          go_wp2_with fail
          go_roundw
          case rel => exact ⟨_, n2 - 1, c2 - 1, rfl, by omega, Lib.hid ⟨q, m3, Hz, HR20.out, fun a n c e _ => rest_low hal a n c e, h3q.out, H49.out.1, H5.out, H49.out.2.2.2.1, H49.out.2.2.2.2.1, H49.out.2.1, fun p hp => HZ.out p (H49.out.2.2.1 p hp), H20.out, HB20.out, H49.out.2.2.2.2.2⟩⟩
          case measure => show n2 - 1 < n2; omega
      | true =>
        have htt2 := htt
        rw [Bool.and_eq_true] at htt2
        obtain ⟨rfl, htb⟩ := htt2
        obtain ⟨p, q2, rfl⟩ : ∃ p q2, q = p :: q2 := by
          cases q with
          | nil => simp [tailB] at htb
          | cons p q2 => exact ⟨p, q2, rfl⟩
        rw [bodyM_tail htt] at h8
        have hk2 : k = 2 ∧ p.1 = 8 := by simpa [tailB] using htb
        obtain ⟨rfl, hp8⟩ := hk2
        have hn23 : 0 ≤ n ∧ n ≤ 23 := by have := h4.1; simpa [okOp] using this
        obtain ⟨j, rfl⟩ : ∃ j : Nat, n = (j : Int) := ⟨n.toNat, by omega⟩
        have h4q := h4.2
        simp only [List.all_cons, Bool.and_eq_true] at h4q
        simp only [List.length_cons] at h6 h7 h12 hn
        have HLL : Hid ((m2.L ++ [((3 : Int), (Sum.inr j : Int ⊕ Nat))]).map pendC = m2.L.map pendC ++ [(3, 0)] ∧ openC 0 (m2.L ++ [((3 : Int), (Sum.inr j : Int ⊕ Nat))]) = openC 0 m2.L ++ [((m2.L.map pendC).length, j)]) := Lib.hid (by simp [pendC, openC_app, openC])
        have HC := Lib.hid (fun W (hW : MkAt lo g W Gz (m2.L.map pendC) m2.E (openC 0 m2.L) st) => toStart_any 3 j (by simp; omega) (by have := open_len 0 m2.L; omega) hW)
        have H5 : Hid (MkOk ⟨m2.L ++ [((3 : Int), (Sum.inr j : Int ⊕ Nat))], m2.E⟩) := Lib.hid (mkok_app h5 _)
        have h8' : bodyM true q2 ⟨m2.L ++ [((3 : Int), (Sum.inr j : Int ⊕ Nat))], m2.E⟩ = some m9 := by simpa using h8
        have H49 : Hid (q2.all okOp = true ∧ bodyM true q2 ⟨m2.L ++ [((3 : Int), (Sum.inr j : Int ⊕ Nat))], m2.E⟩ = some m9 ∧ (∀ p ∈ Fz, p ∈ Gz) ∧ (m2.L ++ [((3 : Int), (Sum.inr j : Int ⊕ Nat))]).length + q2.length ≤ 1960 ∧ m2.E.length + q2.length ≤ 1960 ∧ q2.length ≤ 60) := Lib.hid ⟨h4q.2, h8', h9, by simp; omega, by omega, by omega⟩
        have H3q2 : Hid (∀ o ∈ q2, -2147483648 ≤ o.2 ∧ o.2 ≤ 2147483647) := Lib.hid (fun o ho => h3q.out o (List.mem_cons_of_mem _ ho))
        have HB := Lib.hid h11
        have H10 := Lib.hid h10
        have HLO9 := Lib.hid h10.lows
        have hen := ends_any ((2, (j : Int)) :: p :: q2) _ wr h1.1
        rw [htb] at hen
        have HE3 := Lib.hid hen
        have i1 : (0 : Int) < (n2 : Int) := by omega
        have i2 : (2 : Int) ≤ (n2 : Int) := by omega
        have i3 : n2 ≤ c2 := hcap
        have hn1 : 2 ≤ n2 := by omega
        have wn : IntKind.i64.wrap (j : Int) = (j : Int) := IntWalk.i64_in _ (by omega)
        clear h1 h2 h3 h4 h5 h6 h7 h8 h9 h10 h11 h12 HOP hk htt hn htb h4q h8' hp8 hen h3q
        go_wp2_with fail
        refine HE3.out.mono ?_
        rintro e w2 ⟨rfl, hb2⟩
        have H1b := Lib.hid (H1.out.below hb2)
        have H10b := Lib.hid (H10.out.below hb2)
        have HBb := Lib.hid (HB.out.trans (hb2.mono HLO9.out))
        have q0 : w2.cell? a = some (.int .i64 2) := (hb2.cell la).trans p0
        have q1 : w2.cell? ⟨a.block, a.off + 1, none⟩ = some (.int .i32 (j : Int)) := (hb2.cell (p := ⟨a.block, a.off + 1, none⟩) la).trans p1
        clear hb2 H1 H10 HB HE3 p0 p1 HLO9
        go_wp2_with fail
        refine (HC.out _ H10b.out).mono ?_
        rintro e w3 ⟨rfl, ⟨Hz, hz, h20⟩, hb20⟩
        have HR20 := Lib.hid ((H1b.out.low (fun a2 n c e _ => by injection e with e1 e2 e3; injection e1 with e1; subst e1; exact hal) hb20).drop 2 (by simp))
        have H20 : Hid (MkAt lo g w3 Hz ((m2.L ++ [((3 : Int), (Sum.inr j : Int ⊕ Nat))]).map pendC) m2.E (openC 0 (m2.L ++ [((3 : Int), (Sum.inr j : Int ⊕ Nat))])) st) := Lib.hid (by rw [HLL.out.1, HLL.out.2]; exact h20)
        have HZ := Lib.hid hz
        have HB20 := Lib.hid (HBb.out.trans hb20)
        clear h20 hz hb20 HBb H1b HC H10b q0 q1
        go_wp2_with fail
        go_roundw
        case rel => exact ⟨_, n2 - 2, c2 - 2, rfl, by omega, Lib.hid ⟨q2, ⟨m2.L ++ [((3 : Int), (Sum.inr j : Int ⊕ Nat))], m2.E⟩, Hz, HR20.out, fun a n c e _ => rest_low hal a n c e, H3q2.out, H49.out.1, H5.out, H49.out.2.2.2.1, H49.out.2.2.2.2.1, H49.out.2.1, fun p hp => HZ.out p (H49.out.2.2.1 p hp), H20.out, HB20.out, H49.out.2.2.2.2.2⟩⟩
        case measure => show n2 - 2 < n2; omega
end
end Go.Proofs.YtofikgjoiidhmaaGreatDoor
