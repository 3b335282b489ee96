/-
  Marks that lie in a state.
  The ranges of a state's numbers.
  Plain mathematics of built-in words done one after another: what is turned twice, swapped twice, pushed and popped is what it was; what is stored is fetched.
  Plain mathematics: what is stored is fetched, where there is such an address.
  Plain mathematics: what a built-in word leaves as it was.
  Steps as pairs: which are right.
-/
import Derived.Test.YtmnfdbgiemappaaST4
import Derived.Test.YtmnfdbgiemappaaST3
import Derived.Test.YtmnfdbgiemappaaST1
namespace Go.Proofs.Ytmnfdbgiemappaa
open Go.RowKit Go

set_option maxRecDepth 100000 in
set_option maxHeartbeats 4000000 in
theorem heldst_z (d r m c v o i : Value) (S : S8) (k : Nat) (z0 z1 z2 z3 z4 z5 z6 z7 : Int) (e0 : z0 = (k : Int)) (e1 : z0 + (S.data.length : Int) = z1) (e2 : z1 + 2 * (S.ret.length : Int) = z2) (e3 : z2 + (S.mem.length : Int) = z3) (e4 : z3 + (S.cells.length : Int) = z4) (e5 : z4 + (S.vars.length : Int) = z5) (e6 : z5 + (S.out.length : Int) = z6) (e7 : z6 + (S.inp.length : Int) = z7) (h1 : k + totSt S ≤ 4100000) (hs : totSt S ≤ 4000000) (w : World) (hr : RdSt w d r m c v o i (markSt S k)) :
    Calls Try.prog 48 #[.agg #[d, r, .int .i32 S.a, m, c, v, o, i, .int .i64 S.fault, .int .i64 S.fuel], .int .i64 z0] w fun e w' => e = .returned (.int .i64 z7) ∧ Below w.heap.size w w' := by
  unfold totSt at hs h1
  have l0 : (markSt S k).data.length = S.data.length := marksI_len _ _
  have l1 : (markSt S k).ret.length = S.ret.length := marksS_len _ _
  have l2 : (markSt S k).mem.length = S.mem.length := marksI_len _ _
  have l3 : (markSt S k).cells.length = S.cells.length := marksN_len _ _
  have l4 : (markSt S k).vars.length = S.vars.length := marksL_len _ _
  have l5 : (markSt S k).out.length = S.out.length := marksB_len _ _
  have l6 : (markSt S k).inp.length = S.inp.length := marksB_len _ _
  have hform := hr.form
  rw [l0, l1, l2, l3, l4, l5, l6] at hform
  obtain ⟨⟨A0, a0, rfl⟩, ⟨A1, a1, rfl⟩, ⟨A2, a2, rfl⟩, ⟨A3, a3, rfl⟩, ⟨A4, a4, rfl⟩, ⟨A5, a5, rfl⟩, ⟨A6, a6, rfl⟩⟩ := hform
  have HR := Lib.hid (fun W (h : Below w.heap.size w W) => hr.below h)
  have g1 : ¬ (z1 < 0) := by omega
  have g2 : ¬ (z2 < 0) := by omega
  have g3 : ¬ (z3 < 0) := by omega
  have g4 : ¬ (z4 < 0) := by omega
  have g5 : ¬ (z5 < 0) := by omega
  have g6 : ¬ (z6 < 0) := by omega
  have g7 : ¬ (z7 < 0) := by omega
  have Y0 : Hid (z0 = ((k : Nat) : Int)) := Lib.hid (by push_cast; omega)
  have Y1 : Hid (z1 = ((k + S.data.length : Nat) : Int)) := Lib.hid (by push_cast; omega)
  have Y2 : Hid (z2 = ((k + S.data.length + 2 * S.ret.length : Nat) : Int)) := Lib.hid (by push_cast; omega)
  have Y3 : Hid (z3 = ((k + S.data.length + 2 * S.ret.length + S.mem.length : Nat) : Int)) := Lib.hid (by push_cast; omega)
  have Y4 : Hid (z4 = ((k + S.data.length + 2 * S.ret.length + S.mem.length + S.cells.length : Nat) : Int)) := Lib.hid (by push_cast; omega)
  have Y5 : Hid (z5 = ((k + S.data.length + 2 * S.ret.length + S.mem.length + S.cells.length + S.vars.length : Nat) : Int)) := Lib.hid (by push_cast; omega)
  have Y6 : Hid (z6 = ((k + S.data.length + 2 * S.ret.length + S.mem.length + S.cells.length + S.vars.length + S.out.length : Nat) : Int)) := Lib.hid (by push_cast; omega)
  have B0 : Hid (k ≤ 4194304) := Lib.hid (by omega)
  have N0 : Hid (S.data.length ≤ 4194304) := Lib.hid (by omega)
  have B1 : Hid (k + S.data.length ≤ 4194304) := Lib.hid (by omega)
  have N1 : Hid (S.ret.length ≤ 4194304) := Lib.hid (by omega)
  have B2 : Hid (k + S.data.length + 2 * S.ret.length ≤ 4194304) := Lib.hid (by omega)
  have N2 : Hid (S.mem.length ≤ 4194304) := Lib.hid (by omega)
  have B3 : Hid (k + S.data.length + 2 * S.ret.length + S.mem.length ≤ 4194304) := Lib.hid (by omega)
  have N3 : Hid (S.cells.length ≤ 4194304) := Lib.hid (by omega)
  have B4 : Hid (k + S.data.length + 2 * S.ret.length + S.mem.length + S.cells.length ≤ 4194304) := Lib.hid (by omega)
  have N4 : Hid (S.vars.length ≤ 4194304) := Lib.hid (by omega)
  have B5 : Hid (k + S.data.length + 2 * S.ret.length + S.mem.length + S.cells.length + S.vars.length ≤ 4194304) := Lib.hid (by omega)
  have N5 : Hid (S.out.length ≤ 4194304) := Lib.hid (by omega)
  have B6 : Hid (k + S.data.length + 2 * S.ret.length + S.mem.length + S.cells.length + S.vars.length + S.out.length ≤ 4194304) := Lib.hid (by omega)
  have N6 : Hid (S.inp.length ≤ 4194304) := Lib.hid (by omega)
  have E1 := Lib.hid e1
  have E2 := Lib.hid e2
  have E3 := Lib.hid e3
  have E4 := Lib.hid e4
  have E5 := Lib.hid e5
  have E6 := Lib.hid e6
  have E7 := Lib.hid e7
  clear hr l0 l1 l2 l3 l4 l5 l6 e0 e1 e2 e3 e4 e5 e6 e7 hs h1
  go_enter Try.func48, Try.ntmps48
  go_wp2_with fail
  refine (hdzI _ S.data.length z0 z1 (k) Y0.out E1.out B0.out N0.out _ (HR.out _ (below_alloc w _)).d).mono ?_
  rintro e w1 ⟨rfl, hb1⟩
  obtain ⟨kb1, hB1, hz1⟩ := boxes1 hb1
  obtain ⟨p1_0, p1_1, p1_2, p1_3, p1_4, p1_5, p1_6, p1_7, p1_8, p1_9⟩ := st_cells kb1
  have KB1 := Lib.hid kb1
  have BE1 : Hid (Below w.heap.size w w1) := Lib.hid hB1
  clear kb1 hb1 hB1 hz1
  go_wp2_with fail
  refine (hdzS _ S.ret.length z1 z2 (k + S.data.length) Y1.out E2.out B1.out N1.out _ (HR.out _ BE1.out).r).mono ?_
  rintro e w2 ⟨rfl, hb2⟩
  have kb2 := KB1.out.below hb2 KB1.out.lt
  have hB2 := BE1.out.trans (hb2.mono BE1.out.size)
  obtain ⟨p2_0, p2_1, p2_2, p2_3, p2_4, p2_5, p2_6, p2_7, p2_8, p2_9⟩ := st_cells kb2
  have KB2 := Lib.hid kb2
  have BE2 : Hid (Below w.heap.size w w2) := Lib.hid hB2
  clear kb2 hb2 hB2 KB1 BE1 p1_0 p1_1 p1_2 p1_3 p1_4 p1_5 p1_6 p1_7 p1_8 p1_9
  go_wp2_with fail
  refine (hdzI _ S.mem.length z2 z3 (k + S.data.length + 2 * S.ret.length) Y2.out E3.out B2.out N2.out _ (HR.out _ BE2.out).m).mono ?_
  rintro e w3 ⟨rfl, hb3⟩
  have kb3 := KB2.out.below hb3 KB2.out.lt
  have hB3 := BE2.out.trans (hb3.mono BE2.out.size)
  obtain ⟨p3_0, p3_1, p3_2, p3_3, p3_4, p3_5, p3_6, p3_7, p3_8, p3_9⟩ := st_cells kb3
  have KB3 := Lib.hid kb3
  have BE3 : Hid (Below w.heap.size w w3) := Lib.hid hB3
  clear kb3 hb3 hB3 KB2 BE2 p2_0 p2_1 p2_2 p2_3 p2_4 p2_5 p2_6 p2_7 p2_8 p2_9
  go_wp2_with fail
  refine (hdzN _ S.cells.length z3 z4 (k + S.data.length + 2 * S.ret.length + S.mem.length) Y3.out E4.out B3.out N3.out _ (HR.out _ BE3.out).c).mono ?_
  rintro e w4 ⟨rfl, hb4⟩
  have kb4 := KB3.out.below hb4 KB3.out.lt
  have hB4 := BE3.out.trans (hb4.mono BE3.out.size)
  obtain ⟨p4_0, p4_1, p4_2, p4_3, p4_4, p4_5, p4_6, p4_7, p4_8, p4_9⟩ := st_cells kb4
  have KB4 := Lib.hid kb4
  have BE4 : Hid (Below w.heap.size w w4) := Lib.hid hB4
  clear kb4 hb4 hB4 KB3 BE3 p3_0 p3_1 p3_2 p3_3 p3_4 p3_5 p3_6 p3_7 p3_8 p3_9
  go_wp2_with fail
  refine (hdzL _ S.vars.length z4 z5 (k + S.data.length + 2 * S.ret.length + S.mem.length + S.cells.length) Y4.out E5.out B4.out N4.out _ (HR.out _ BE4.out).v).mono ?_
  rintro e w5 ⟨rfl, hb5⟩
  have kb5 := KB4.out.below hb5 KB4.out.lt
  have hB5 := BE4.out.trans (hb5.mono BE4.out.size)
  obtain ⟨p5_0, p5_1, p5_2, p5_3, p5_4, p5_5, p5_6, p5_7, p5_8, p5_9⟩ := st_cells kb5
  have KB5 := Lib.hid kb5
  have BE5 : Hid (Below w.heap.size w w5) := Lib.hid hB5
  clear kb5 hb5 hB5 KB4 BE4 p4_0 p4_1 p4_2 p4_3 p4_4 p4_5 p4_6 p4_7 p4_8 p4_9
  go_wp2_with fail
  refine (hdzB _ S.out.length z5 z6 (k + S.data.length + 2 * S.ret.length + S.mem.length + S.cells.length + S.vars.length) Y5.out E6.out B5.out N5.out _ (HR.out _ BE5.out).o).mono ?_
  rintro e w6 ⟨rfl, hb6⟩
  have kb6 := KB5.out.below hb6 KB5.out.lt
  have hB6 := BE5.out.trans (hb6.mono BE5.out.size)
  obtain ⟨p6_0, p6_1, p6_2, p6_3, p6_4, p6_5, p6_6, p6_7, p6_8, p6_9⟩ := st_cells kb6
  have KB6 := Lib.hid kb6
  have BE6 : Hid (Below w.heap.size w w6) := Lib.hid hB6
  clear kb6 hb6 hB6 KB5 BE5 p5_0 p5_1 p5_2 p5_3 p5_4 p5_5 p5_6 p5_7 p5_8 p5_9
  go_wp2_with fail
  refine (hdzB _ S.inp.length z6 z7 (k + S.data.length + 2 * S.ret.length + S.mem.length + S.cells.length + S.vars.length + S.out.length) Y6.out E7.out B6.out N6.out _ (HR.out _ BE6.out).i).mono ?_
  rintro e w7 ⟨rfl, hb7⟩
  have kb7 := KB6.out.below hb7 KB6.out.lt
  have hB7 := BE6.out.trans (hb7.mono BE6.out.size)
  obtain ⟨p7_0, p7_1, p7_2, p7_3, p7_4, p7_5, p7_6, p7_7, p7_8, p7_9⟩ := st_cells kb7
  have KB7 := Lib.hid kb7
  have BE7 : Hid (Below w.heap.size w w7) := Lib.hid hB7
  clear kb7 hb7 hB7 KB6 BE6 p6_0 p6_1 p6_2 p6_3 p6_4 p6_5 p6_6 p6_7 p6_8 p6_9
  go_wp2_with fail
  go_ret
  exact ⟨rfl, BE7.out⟩
theorem heldst_any (d r m c v o i : Value) (S : S8) (k : Nat) (h1 : k + totSt S ≤ 4100000) (hs : totSt S ≤ 4000000) (w : World) (hr : RdSt w d r m c v o i (markSt S k)) :
    Calls Try.prog 48 #[.agg #[d, r, .int .i32 S.a, m, c, v, o, i, .int .i64 S.fault, .int .i64 S.fuel], .int .i64 k] w fun e w' => e = .returned (.int .i64 ((k : Int) + (totSt S : Int))) ∧ Below w.heap.size w w' :=
  (heldst_z d r m c v o i S k _ _ _ _ _ _ _ _ rfl rfl rfl rfl rfl rfl rfl rfl h1 hs w hr).mono fun e w' h => ⟨h.1.trans (ret_i64 (by unfold totSt; push_cast; omega)), h.2⟩
theorem heldst1 (d r m c v o i : Value) (S : S8) (hs : totSt S ≤ 4000000) (w : World) (hr : RdSt w d r m c v o i (markSt S 1)) :
    Calls Try.prog 48 #[.agg #[d, r, .int .i32 S.a, m, c, v, o, i, .int .i64 S.fault, .int .i64 S.fuel], .int .i64 1] w fun e w' => e = .returned (.int .i64 (1 + (totSt S : Int))) ∧ Below w.heap.size w w' := heldst_any d r m c v o i S 1 (by omega) hs w hr
end Go.Proofs.Ytmnfdbgiemappaa

namespace Go.Proofs.Ytmnfdbgiemappaa
open Go.RowKit Go

/-- What holds of a state's numbers: 32 bits; bytes. -/
structure Rng8 (S : S8) : Prop where
  data : ∀ x ∈ S.data, -2147483648 ≤ x ∧ x ≤ 2147483647
  inp : ∀ x ∈ S.inp, x < 256
theorem Rng8.top {S : S8} (h : Rng8 S) (i : Nat) : -2147483648 ≤ top8 S i ∧ top8 S i ≤ 2147483647 := by
  unfold top8 List.getD
  cases hq : S.data[S.data.length - 1 - i]? with
  | none => simp
  | some x => exact h.data x (List.mem_of_getElem? hq)
theorem Ok8.place {S : S8} (h : Ok8 S) {x : Int} (hx : x ∈ S.vars) : 0 ≤ x ∧ x < (S.cells.length : Int) := by
  obtain ⟨i, hi, rfl⟩ := List.getElem_of_mem hx
  have := of_decide_eq_true h.places i hi
  exact this.1
end Go.Proofs.Ytmnfdbgiemappaa

namespace Go.Proofs.Ytmnfdbgiemappaa
open Go.RowKit Go

theorem do8_in {S : S8} {k : Int} (h : ok8 S = true) (hf : S.fault = 0) : do8 S k = fin8 S (word8 S k) := by unfold do8; rw [if_pos h, if_pos hf]
theorem push8_in {S : S8} {n : Int} (h : ok8 S = true) (hf : S.fault = 0) : push8 S n = fin8 S (put8 S 0 [n]) := by unfold push8; rw [if_pos h, if_pos hf]
theorem word8_in {S : S8} {k : Nat} (hk : k ≤ 23) (hl : takes8 k ≤ S.data.length) : word8 S (k : Int) = prim8 k S (top8 S 1) (top8 S 0) := by
  unfold word8
  rw [if_neg (by omega), Int.toNat_natCast, if_neg (by omega)]
theorem word8_few {S : S8} {k : Nat} (hk : k ≤ 23) (hl : S.data.length < takes8 k) : word8 S (k : Int) = .inl 2 := by
  unfold word8
  rw [if_neg (by omega), Int.toNat_natCast, if_pos hl]
theorem snoc1 {l : List Int} (h : 1 ≤ l.length) : ∃ p y, l = p ++ [y] := ⟨l.dropLast, l.getLast (by intro e; rw [e] at h; simp at h), (List.dropLast_concat_getLast _).symm⟩
theorem snoc2 {l : List Int} (h : 2 ≤ l.length) : ∃ p x y, l = p ++ [x, y] := by
  obtain ⟨q, y, rfl⟩ := snoc1 (l := l) (by omega)
  obtain ⟨p, x, rfl⟩ := snoc1 (l := q) (by simp at h; omega)
  exact ⟨p, x, y, by simp⟩
theorem top0_snoc {S : S8} {p : List Int} {y : Int} (h : S.data = p ++ [y]) : top8 S 0 = y := by unfold top8; rw [h]; simp
theorem top01_snoc {S : S8} {p : List Int} {x y : Int} (h : S.data = p ++ [x, y]) : top8 S 0 = y ∧ top8 S 1 = x := by
  unfold top8
  rw [h]
  constructor
  · rw [show (p ++ [x, y]).length - 1 - 0 = p.length + 1 by simp]
    simp [List.getD]
  · rw [show (p ++ [x, y]).length - 1 - 1 = p.length by simp]
    simp [List.getD]
theorem Ok8.setData {S : S8} (h : Ok8 S) {d : List Int} (hd : d.length ≤ 16) : Ok8 { S with data := d } := ⟨hd, h.ret, h.mem, h.vars, h.out, h.inp, h.kinds, h.places, h.store, h.fault, h.fuel⟩
theorem put8_take {S : S8} {p q l : List Int} {t : Nat} (h : S.data = p ++ q) (ht : q.length = t) (hl : p.length + l.length ≤ 16) : put8 S t l = .inr { S with data := p ++ l } := by
  have e : S.data.length - t = p.length := by rw [h, List.length_append]; omega
  unfold put8
  rw [e, if_neg (by omega), h, List.take_left']
  rfl
theorem drop8_take {S : S8} {p q : List Int} {t : Nat} (h : S.data = p ++ q) (ht : q.length = t) : drop8 S t = { S with data := p } := by
  have e : S.data.length - t = p.length := by rw [h, List.length_append]; omega
  unfold drop8
  rw [e, h, List.take_left']
  rfl
theorem fault2 {S : S8} {f : Int} (hf : f ≠ 0) : (fin8 S (.inl f)).fault ≠ 0 := hf
theorem twice_neg {S : S8} (h : ok8 S = true) (hf : S.fault = 0) (h1 : (do8 S 6).fault = 0) : do8 (do8 S 6) 6 = S ∧ ok8 (do8 S 6) = true := by
  have hO := (ok8_iff S).1 h
  by_cases hl : 1 ≤ S.data.length
  · obtain ⟨p, y, hp⟩ := snoc1 hl
    have hpl : p.length + 1 ≤ 16 := by have := hO.data; rw [hp] at this; simpa using this
    have e : do8 S 6 = { S with data := p ++ [-1 - y] } := by
      rw [do8_in h hf, show (6 : Int) = ((6 : Nat) : Int) from rfl, word8_in (k := 6) (by omega) hl]
      show fin8 S (put8 S 1 [-1 - top8 S 0]) = _
      rw [top0_snoc hp, put8_take (t := 1) (l := [-1 - y]) hp rfl (by simpa using hpl)]
      rfl
    have hO2 := hO.setData (d := p ++ [-1 - y]) (by simpa using hpl)
    have h2 := (ok8_iff _).2 hO2
    rw [e]
    refine ⟨?_, h2⟩
    rw [do8_in h2 hf, show (6 : Int) = ((6 : Nat) : Int) from rfl, word8_in (S := { S with data := p ++ [-1 - y] }) (k := 6) (by omega) (show 1 ≤ (p ++ [-1 - y]).length by simp)]
    show fin8 _ (put8 _ 1 [-1 - top8 _ 0]) = _
    rw [top0_snoc (S := { S with data := p ++ [-1 - y] }) rfl, put8_take (S := { S with data := p ++ [-1 - y] }) (t := 1) (l := [-1 - (-1 - y)]) rfl rfl (by simpa using hpl)]
    show ({ S with data := p ++ [-1 - (-1 - y)] } : S8) = S
    rw [show -1 - (-1 - y) = y by omega, ← hp]
  · rw [do8_in h hf, show (6 : Int) = ((6 : Nat) : Int) from rfl, word8_few (k := 6) (by omega) (by show S.data.length < 1; omega)] at h1
    exact absurd h1 (fault2 (by decide))
theorem twice_swap {S : S8} (h : ok8 S = true) (hf : S.fault = 0) (h1 : (do8 S 4).fault = 0) : do8 (do8 S 4) 4 = S ∧ ok8 (do8 S 4) = true := by
  have hO := (ok8_iff S).1 h
  by_cases hl : 2 ≤ S.data.length
  · obtain ⟨p, x, y, hp⟩ := snoc2 hl
    have hpl : p.length + 2 ≤ 16 := by have := hO.data; rw [hp] at this; simpa using this
    have e : do8 S 4 = { S with data := p ++ [y, x] } := by
      rw [do8_in h hf, show (4 : Int) = ((4 : Nat) : Int) from rfl, word8_in (k := 4) (by omega) hl]
      show fin8 S (put8 S 2 [top8 S 0, top8 S 1]) = _
      rw [(top01_snoc hp).1, (top01_snoc hp).2, put8_take (t := 2) (l := [y, x]) hp rfl (by simpa using hpl)]
      rfl
    have hO2 := hO.setData (d := p ++ [y, x]) (by simpa using hpl)
    have h2 := (ok8_iff _).2 hO2
    rw [e]
    refine ⟨?_, h2⟩
    rw [do8_in h2 hf, show (4 : Int) = ((4 : Nat) : Int) from rfl, word8_in (S := { S with data := p ++ [y, x] }) (k := 4) (by omega) (show 2 ≤ (p ++ [y, x]).length by simp)]
    show fin8 _ (put8 _ 2 [top8 _ 0, top8 _ 1]) = _
    have ht := top01_snoc (S := { S with data := p ++ [y, x] }) rfl
    rw [ht.1, ht.2, put8_take (S := { S with data := p ++ [y, x] }) (t := 2) (l := [x, y]) rfl rfl (by simpa using hpl)]
    show ({ S with data := p ++ [x, y] } : S8) = S
    rw [← hp]
  · rw [do8_in h hf, show (4 : Int) = ((4 : Nat) : Int) from rfl, word8_few (k := 4) (by omega) (by show S.data.length < 2; omega)] at h1
    exact absurd h1 (fault2 (by decide))
theorem kinds_app {r : List (Int × Int)} {o : Int × Int} (h : kindsB r = true) (ho : 0 ≤ o.1 ∧ o.1 ≤ 2) : kindsB (r ++ [o]) = true := by
  unfold kindsB at h ⊢
  have h2 := of_decide_eq_true h
  refine decide_eq_true fun i hi => ?_
  by_cases hl : i < r.length
  · rw [List.getElem_append_left hl]; exact h2 i hl
  · have e : i = r.length := by simp at hi; omega
    subst e
    simpa using ho
theorem twice_push {S : S8} (h : ok8 S = true) (hf : S.fault = 0) (h1 : (do8 S 19).fault = 0) : do8 (do8 S 19) 20 = S ∧ ok8 (do8 S 19) = true := by
  have hO := (ok8_iff S).1 h
  by_cases hl : 1 ≤ S.data.length
  · obtain ⟨p, y, hp⟩ := snoc1 hl
    have hpl : p.length + 1 ≤ 16 := by have := hO.data; rw [hp] at this; simpa using this
    by_cases hr : S.ret.length = 24
    · rw [do8_in h hf, show (19 : Int) = ((19 : Nat) : Int) from rfl, word8_in (k := 19) (by omega) hl] at h1
      have e : prim8 19 S (top8 S 1) (top8 S 0) = .inl 3 := by show (if S.ret.length = 24 then _ else _) = _; rw [if_pos hr]
      rw [e] at h1
      exact absurd h1 (fault2 (by decide))
    · have e : do8 S 19 = { S with data := p, ret := S.ret ++ [(0, y)] } := by
        rw [do8_in h hf, show (19 : Int) = ((19 : Nat) : Int) from rfl, word8_in (k := 19) (by omega) hl]
        show fin8 S (if S.ret.length = 24 then _ else _) = _
        rw [if_neg hr, top0_snoc hp, drop8_take (t := 1) hp rfl]
        rfl
      have hO2 : Ok8 { S with data := p, ret := S.ret ++ [(0, y)] } := ⟨by show p.length ≤ 16; omega, by have := hO.ret; show (S.ret ++ [(0, y)]).length ≤ 24; simp; omega, hO.mem, hO.vars, hO.out, hO.inp, kinds_app hO.kinds ⟨by show (0 : Int) ≤ 0; omega, by show (0 : Int) ≤ 2; omega⟩, hO.places, hO.store, hO.fault, hO.fuel⟩
      have h2 := (ok8_iff _).2 hO2
      rw [e]
      refine ⟨?_, h2⟩
      rw [do8_in h2 hf, show (20 : Int) = ((20 : Nat) : Int) from rfl, word8_in (S := { S with data := p, ret := S.ret ++ [(0, y)] }) (k := 20) (by omega) (Nat.zero_le _)]
      have e2 : prim8 20 { S with data := p, ret := S.ret ++ [(0, y)] } (top8 { S with data := p, ret := S.ret ++ [(0, y)] } 1) (top8 { S with data := p, ret := S.ret ++ [(0, y)] } 0) = put8 { S with data := p, ret := (S.ret ++ [(0, y)]).dropLast } 0 [y] := by
        show (match (S.ret ++ [(0, y)]).getLast? with | none => _ | some t => _) = _
        rw [List.getLast?_concat]
        rfl
      rw [e2, put8_take (S := ({ S with data := p, ret := List.dropLast (S.ret ++ [((0 : Int), y)]) } : S8)) (t := 0) (l := [y]) (p := p) (q := []) (by simp) rfl (by simpa using hpl)]
      show ({ S with data := p ++ [y], ret := (S.ret ++ [(0, y)]).dropLast } : S8) = S
      rw [List.dropLast_concat, ← hp]
  · rw [do8_in h hf, show (19 : Int) = ((19 : Nat) : Int) from rfl, word8_few (k := 19) (by omega) (by show S.data.length < 1; omega)] at h1
    exact absurd h1 (fault2 (by decide))
end Go.Proofs.Ytmnfdbgiemappaa

namespace Go.Proofs.Ytmnfdbgiemappaa
open Go.RowKit Go

theorem push8_eq {S : S8} {n : Int} (h : ok8 S = true) (hf : S.fault = 0) (hd : S.data.length ≤ 15) : push8 S n = { S with data := S.data ++ [n] } ∧ ok8 { S with data := S.data ++ [n] } = true := by
  have hl : S.data.length + [n].length ≤ 16 := by simp; omega
  refine ⟨?_, (ok8_iff _).2 (((ok8_iff S).1 h).setData (by simpa using hl))⟩
  rw [push8_in h hf, put8_take (t := 0) (l := [n]) (p := S.data) (q := []) (by simp) rfl hl]
  rfl
theorem push8_bad {S : S8} {n : Int} (h : ok8 S = true) (hf : S.fault ≠ 0) : push8 S n = S := by unfold push8; rw [if_pos h, if_neg hf]
theorem do8_bad {S : S8} {k : Int} (h : ok8 S = true) (hf : S.fault ≠ 0) : do8 S k = S := by unfold do8; rw [if_pos h, if_neg hf]
theorem Ok8.setFault {S : S8} (h : Ok8 S) {f : Int} (hf : 0 ≤ f ∧ f ≤ 13) : Ok8 { S with fault := f } := ⟨h.data, h.ret, h.mem, h.vars, h.out, h.inp, h.kinds, h.places, h.store, hf, h.fuel⟩
theorem Rng8.push {S : S8} (h : Rng8 S) {n : Int} (hn : -2147483648 ≤ n ∧ n ≤ 2147483647) : Rng8 { S with data := S.data ++ [n] } := ⟨fun x hx => by
  rcases List.mem_append.1 hx with h1 | h1
  · exact h.data x h1
  · rw [List.mem_singleton.1 h1]; exact hn, h.inp⟩
/-- What a store of n at a makes of a state. -/
def stored8 (S : S8) (n a : Int) : S8 :=
  if 0 ≤ a ∧ a ≤ 31 then { S with mem := S.mem.set a.toNat n } else if a - 1024 ∈ S.vars then { S with cells := S.cells.set (a - 1024).toNat (n % 4294967296).toNat } else { S with data := S.data ++ [n, a], fault := 4 }
theorem store_do {S : S8} {n a : Int} (h : ok8 S = true) (hf : S.fault = 0) (hd : S.data.length ≤ 12) : do8 { S with data := S.data ++ [n, a] } 14 = stored8 S n a ∧ ok8 { S with data := S.data ++ [n, a] } = true := by
  have hO := (ok8_iff S).1 h
  have hl : (S.data ++ [n, a]).length ≤ 16 := by simp; omega
  have h2 := (ok8_iff _).2 (hO.setData hl)
  refine ⟨?_, h2⟩
  rw [do8_in h2 hf, show (14 : Int) = ((14 : Nat) : Int) from rfl, word8_in (S := { S with data := S.data ++ [n, a] }) (k := 14) (by omega) (show 2 ≤ (S.data ++ [n, a]).length by simp)]
  have ht := top01_snoc (S := { S with data := S.data ++ [n, a] }) rfl
  rw [ht.1, ht.2]
  have hdr := drop8_take (S := { S with data := S.data ++ [n, a] }) (p := S.data) (q := [n, a]) (t := 2) rfl rfl
  show fin8 _ (if 0 ≤ a ∧ a ≤ 31 then _ else if a - 1024 ∈ S.vars then _ else _) = _
  unfold stored8
  by_cases h1 : 0 ≤ a ∧ a ≤ 31
  · rw [if_pos h1, if_pos h1, hdr]
    rfl
  · rw [if_neg h1, if_neg h1]
    by_cases h3 : a - 1024 ∈ S.vars
    · rw [if_pos h3, if_pos h3, hdr]
      rfl
    · rw [if_neg h3, if_neg h3]
      rfl
theorem stored_ok {S : S8} {n a : Int} (h : ok8 S = true) (hd : S.data.length ≤ 12) : ok8 (stored8 S n a) = true := by
  have hO := (ok8_iff S).1 h
  refine (ok8_iff _).2 ?_
  unfold stored8
  split
  · exact ⟨hO.data, hO.ret, by show (S.mem.set _ _).length = 32; rw [List.length_set]; exact hO.mem, hO.vars, hO.out, hO.inp, hO.kinds, hO.places, hO.store, hO.fault, hO.fuel⟩
  · split
    · exact ⟨hO.data, hO.ret, hO.mem, hO.vars, hO.out, hO.inp, hO.kinds, by show varsB S.vars (S.cells.set _ _).length = true; rw [List.length_set]; exact hO.places, by show storeB (S.cells.set _ _).length = true; rw [List.length_set]; exact hO.store, hO.fault, hO.fuel⟩
    · exact (hO.setData (d := S.data ++ [n, a]) (by simp; omega)).setFault (by omega)
theorem wrap_low {n : Int} (hn : -2147483648 ≤ n ∧ n ≤ 2147483647) : wrap32 (((n % 4294967296).toNat : Nat) : Int) = n := by
  have h0 : 0 ≤ n % 4294967296 := Int.emod_nonneg _ (by omega)
  rw [Int.toNat_of_nonneg h0]
  unfold wrap32
  omega
/-- Stored, and fetched again. -/
theorem stores_math {S : S8} {n a : Int} (h : ok8 S = true) (hf : S.fault = 0) (hd : S.data.length ≤ 12) (hn : -2147483648 ≤ n ∧ n ≤ 2147483647) (ha : (-2 ≤ a ∧ a ≤ 37) ∨ a - 1024 ∈ S.vars) :
    (if a < 0 ∨ (32 ≤ a ∧ a < 1024) then (stored8 S n a).fault = 4 ∧ (do8 (push8 (stored8 S n a) a) 13).fault = 4 else (do8 (push8 (stored8 S n a) a) 13).fault = 0 ∧ (do8 (push8 (stored8 S n a) a) 13).data = S.data ++ [n]) ∧ ok8 (push8 (stored8 S n a) a) = true := by
  have hO := (ok8_iff S).1 h
  have hs := stored_ok (n := n) (a := a) h hd
  by_cases hb : a < 0 ∨ (32 ≤ a ∧ a < 1024)
  · have h1 : ¬ (0 ≤ a ∧ a ≤ 31) := by omega
    have h2 : a - 1024 ∉ S.vars := fun hm => by have := hO.place hm; omega
    have e : (stored8 S n a).fault = 4 := by unfold stored8; rw [if_neg h1, if_neg h2]
    rw [if_pos hb, push8_bad hs (by rw [e]; decide), do8_bad hs (by rw [e]; decide)]
    exact ⟨⟨e, e⟩, hs⟩
  · rw [if_neg hb]
    by_cases h1 : 0 ≤ a ∧ a ≤ 31
    · have e : stored8 S n a = { S with mem := S.mem.set a.toNat n } := by unfold stored8; rw [if_pos h1]
      rw [e] at hs ⊢
      obtain ⟨e2, h3⟩ := push8_eq (n := a) hs hf (show S.data.length ≤ 15 by omega)
      rw [e2]
      refine ⟨?_, h3⟩
      have hg : (S.mem.set a.toNat n).getD a.toNat 0 = n := by
        have := hO.mem
        rw [List.getD_eq_getElem?_getD, List.getElem?_set_self (by omega)]
        rfl
      have e3 : do8 { S with mem := S.mem.set a.toNat n, data := S.data ++ [a] } 13 = { S with mem := S.mem.set a.toNat n, data := S.data ++ [n] } := by
        rw [do8_in h3 hf, show (13 : Int) = ((13 : Nat) : Int) from rfl, word8_in (S := { S with mem := S.mem.set a.toNat n, data := S.data ++ [a] }) (k := 13) (by omega) (show 1 ≤ (S.data ++ [a]).length by simp)]
        rw [top0_snoc (S := { S with mem := S.mem.set a.toNat n, data := S.data ++ [a] }) rfl]
        show fin8 _ (if 0 ≤ a ∧ a ≤ 31 then put8 _ 1 [(S.mem.set a.toNat n).getD a.toNat 0] else _) = _
        rw [if_pos h1, hg, put8_take (S := { S with mem := S.mem.set a.toNat n, data := S.data ++ [a] }) (t := 1) (l := [n]) (p := S.data) (q := [a]) rfl rfl (by simp; omega)]
        rfl
      rw [e3]
      exact ⟨hf, rfl⟩
    · have hv : a - 1024 ∈ S.vars := by
        rcases ha with ha | ha
        · omega
        · exact ha
      have hp := hO.place hv
      have e : stored8 S n a = { S with cells := S.cells.set (a - 1024).toNat (n % 4294967296).toNat } := by unfold stored8; rw [if_neg h1, if_pos hv]
      rw [e] at hs ⊢
      obtain ⟨C, hC⟩ : ∃ C, S.cells.set (a - 1024).toNat (n % 4294967296).toNat = C := ⟨_, rfl⟩
      have hcl : C.length = S.cells.length := by rw [← hC, List.length_set]
      have hg : C.getD (a - 1024).toNat 0 = (n % 4294967296).toNat := by
        rw [← hC, List.getD_eq_getElem?_getD, List.getElem?_set_self (by omega)]
        rfl
      rw [hC] at hs ⊢
      obtain ⟨e2, h3⟩ := push8_eq (n := a) hs hf (show S.data.length ≤ 15 by omega)
      rw [e2]
      refine ⟨?_, h3⟩
      have e3 : do8 { S with cells := C, data := S.data ++ [a] } 13 = { S with cells := C, data := S.data ++ [n] } := by
        rw [do8_in h3 hf, show (13 : Int) = ((13 : Nat) : Int) from rfl, word8_in (S := { S with cells := C, data := S.data ++ [a] }) (k := 13) (by omega) (show 1 ≤ (S.data ++ [a]).length by simp)]
        rw [top0_snoc (S := { S with cells := C, data := S.data ++ [a] }) rfl]
        show fin8 _ (if 0 ≤ a ∧ a ≤ 31 then _ else if 1024 ≤ a ∧ a < 1024 + (C.length : Int) then put8 _ 1 [wrap32 (C.getD (a - 1024).toNat 0 : Nat)] else _) = _
        rw [if_neg h1, if_pos (by omega), hg, wrap_low hn, put8_take (S := { S with cells := C, data := S.data ++ [a] }) (t := 1) (l := [n]) (p := S.data) (q := [a]) rfl rfl (by simp; omega)]
        rfl
      rw [e3]
      exact ⟨hf, rfl⟩
end Go.Proofs.Ytmnfdbgiemappaa

namespace Go.Proofs.Ytmnfdbgiemappaa
open Go.RowKit Go

/-- What a word keeps. -/
structure Keeps (S T : S8) : Prop where
  data : ∃ (t : Nat) (l : List Int), t ≤ 2 ∧ l.length ≤ 3 ∧ T.data = S.data.take (S.data.length - t) ++ l ∧ T.data.length ≤ 16
  ret : T.ret.length ≤ 24 ∧ kindsB T.ret = true
  mem : T.mem.length = 32
  cells : T.cells = S.cells ∨ ∃ (j x : Nat), (j : Int) ∈ S.vars ∧ T.cells = S.cells.set j x
  vars : T.vars = S.vars
  out : T.out.length ≤ 400
  inp : T.inp.length ≤ 100
  fault : T.fault = S.fault
  fuel : T.fuel = S.fuel
theorem Keeps.ok {S T : S8} (h : Keeps S T) (hO : Ok8 S) : Ok8 T := by
  obtain ⟨t, l, -, -, -, hd⟩ := h.data
  have hc : T.cells.length = S.cells.length := by
    rcases h.cells with e | ⟨j, x, -, e⟩
    · rw [e]
    · rw [e, List.length_set]
  exact ⟨hd, h.ret.1, h.mem, by rw [h.vars]; exact hO.vars, h.out, h.inp, h.ret.2, by rw [h.vars, hc]; exact hO.places, by rw [hc]; exact hO.store, by rw [h.fault]; exact hO.fault, by rw [h.fuel]; exact hO.fuel⟩
theorem keeps_put {S R T : S8} {t : Nat} {l : List Int} (hO : Ok8 S) (h : put8 R t l = .inr T) (ht : t ≤ 2) (hl : l.length ≤ 3) (e0 : R.data = S.data) (e1 : R.ret.length ≤ 24 ∧ kindsB R.ret = true) (e2 : R.mem = S.mem) (e3 : R.cells = S.cells) (e4 : R.vars = S.vars) (e5 : R.out = S.out) (e6 : R.inp.length ≤ 100) (e7 : R.fault = S.fault) (e8 : R.fuel = S.fuel) : Keeps S T := by
  unfold put8 at h
  split at h
  · cases h
  · rename_i hn
    injection h with h
    subst h
    exact ⟨⟨t, l, ht, hl, by show R.data.take _ ++ l = _; rw [e0], by show (R.data.take (R.data.length - t) ++ l).length ≤ 16; rw [List.length_append, List.length_take]; omega⟩, e1, by show R.mem.length = 32; rw [e2]; exact hO.mem, .inl e3, e4, by show R.out.length ≤ 400; rw [e5]; exact hO.out, e6, e7, e8⟩
theorem keeps_put0 {S T : S8} {t : Nat} {l : List Int} (hO : Ok8 S) (h : put8 S t l = .inr T) (ht : t ≤ 2) (hl : l.length ≤ 3) : Keeps S T := keeps_put hO h ht hl rfl ⟨hO.ret, hO.kinds⟩ rfl rfl rfl rfl hO.inp rfl rfl
theorem keeps_drop {S : S8} {t : Nat} (hO : Ok8 S) (ht : t ≤ 2) : Keeps S (drop8 S t) := ⟨⟨t, [], ht, by simp, by show S.data.take _ = _; rw [List.append_nil], by show (S.data.take _).length ≤ 16; rw [List.length_take]; have := hO.data; omega⟩, ⟨hO.ret, hO.kinds⟩, hO.mem, .inl rfl, rfl, hO.out, hO.inp, rfl, rfl⟩
theorem keeps_say {S T : S8} {b : List Nat} (hO : Ok8 S) (h : say8 S b = .inr T) : Keeps S T := by
  unfold say8 at h
  split at h
  · cases h
  · rename_i hn
    injection h with h
    subst h
    have k := keeps_drop hO (t := 1) (by omega)
    exact ⟨k.data, k.ret, k.mem, k.cells, k.vars, by show (S.out ++ b).length ≤ 400; rw [List.length_append]; omega, k.inp, k.fault, k.fuel⟩
theorem kinds_drop {r : List (Int × Int)} (h : kindsB r = true) : kindsB r.dropLast = true := by
  unfold kindsB at h ⊢
  have h2 := of_decide_eq_true h
  refine decide_eq_true fun i hi => ?_
  rw [List.getElem_dropLast]
  exact h2 i (by simp at hi; omega)
theorem pure_len (k : Nat) (x y : Int) : (pure8 k x y).length ≤ 3 := by
  unfold pure8
  split <;> simp
theorem takes_le (k : Nat) : takes8 k ≤ 2 := by
  match k with
  | 0 | 1 | 2 | 3 | 4 | 5 | 6 | 7 | 8 | 9 | 10 | 11 | 12 | 13 | 14 | 15 | 16 | 17 | 18 | 19 | 20 | 21 | 22 | 23 => decide
  | n + 24 => simp [takes8]
theorem prim_keeps {k : Nat} {S T : S8} {x y : Int} (hO : Ok8 S) (h : prim8 k S x y = .inr T) : Keeps S T := by
  unfold prim8 at h
  split at h
  · split at h
    · cases h
    · exact keeps_put0 hO h (by omega) (by simp)
  · split at h
    · exact keeps_put0 hO h (by omega) (by simp)
    · split at h
      · exact keeps_put0 hO h (by omega) (by simp)
      · cases h
  · split at h
    · injection h with h
      subst h
      have k := keeps_drop hO (t := 2) (by omega)
      exact ⟨k.data, k.ret, by show (S.mem.set _ _).length = 32; rw [List.length_set]; exact hO.mem, k.cells, k.vars, k.out, k.inp, k.fault, k.fuel⟩
    · split at h
      · rename_i hv
        injection h with h
        subst h
        have k := keeps_drop hO (t := 2) (by omega)
        have hp := hO.place hv
        exact ⟨k.data, k.ret, k.mem, .inr ⟨(y - 1024).toNat, _, by rw [Int.toNat_of_nonneg hp.1]; exact hv, rfl⟩, k.vars, k.out, k.inp, k.fault, k.fuel⟩
      · cases h
  · exact keeps_put0 hO h (by omega) (by simp)
  · injection h with h
    subst h
    have k := keeps_drop hO (t := 1) (by omega)
    exact ⟨k.data, k.ret, k.mem, k.cells, k.vars, k.out, k.inp, k.fault, k.fuel⟩
  · exact keeps_say hO h
  · split at h
    · exact keeps_put0 hO h (by omega) (by simp)
    · rename_i b r hi
      exact keeps_put hO h (by omega) (by simp) rfl ⟨hO.ret, hO.kinds⟩ rfl rfl rfl rfl (by have := hO.inp; rw [hi] at this; simp at this; show r.length ≤ 100; omega) rfl rfl
  · split at h
    · cases h
    · rename_i hr
      injection h with h
      subst h
      have k := keeps_drop hO (t := 1) (by omega)
      exact ⟨k.data, ⟨by show (S.ret ++ [(0, y)]).length ≤ 24; have := hO.ret; simp; omega, kinds_app hO.kinds ⟨by show (0 : Int) ≤ 0; omega, by show (0 : Int) ≤ 2; omega⟩⟩, k.mem, k.cells, k.vars, k.out, k.inp, k.fault, k.fuel⟩
  · split at h
    · cases h
    · split at h
      · exact keeps_put hO h (by omega) (by simp) rfl ⟨by show S.ret.dropLast.length ≤ 24; have := hO.ret; simp; omega, kinds_drop hO.kinds⟩ rfl rfl rfl rfl hO.inp rfl rfl
      · cases h
  · split at h
    · cases h
    · split at h
      · cases h
      · exact keeps_put0 hO h (by omega) (by simp)
  · exact keeps_say hO h
  · exact keeps_put0 hO h (takes_le _) (pure_len _ _ _)
/-- What Do makes of a right state without a fault: the same one with a fault, or one that keeps. -/
theorem deep_math {S : S8} {k : Int} (h : ok8 S = true) (hf : S.fault = 0) : ((do8 S k).fault ≠ 0 ∧ ∃ f, do8 S k = { S with fault := f }) ∨ (Keeps S (do8 S k) ∧ (do8 S k).fault = 0) := by
  have hO := (ok8_iff S).1 h
  rw [do8_in h hf]
  cases hw : word8 S k with
  | inl f =>
    by_cases h0 : f = 0
    · refine .inr ⟨?_, by rw [h0]; rfl⟩
      have e : fin8 S (.inl f) = S := by show ({ S with fault := f } : S8) = S; rw [h0, ← hf]
      rw [e]
      exact ⟨⟨0, [], by omega, by simp, by simp, hO.data⟩, ⟨hO.ret, hO.kinds⟩, hO.mem, .inl rfl, rfl, hO.out, hO.inp, rfl, rfl⟩
    · exact .inl ⟨h0, f, rfl⟩
  | inr T =>
    refine .inr ?_
    have hT : Keeps S T := by
      unfold word8 at hw
      split at hw
      · cases hw
      · split at hw
        · cases hw
        · exact prim_keeps hO hw
    exact ⟨hT, hT.fault.trans hf⟩
/-- The numbers that lie deeper are what they were. -/
theorem Keeps.deep {S T : S8} (h : Keeps S T) {i : Nat} (h1 : (i : Int) < (S.data.length : Int) - 2) (_h2 : i < T.data.length) : S.data[i]? = T.data[i]? := by
  obtain ⟨t, l, ht, -, e, -⟩ := h.data
  rw [e, List.getElem?_append_left (by rw [List.length_take]; omega), List.getElem?_take_of_lt (by omega)]
end Go.Proofs.Ytmnfdbgiemappaa

namespace Go.Proofs.Ytmnfdbgiemappaa
open Go.RowKit Go

theorem all_step {α : Type} {p : α → Bool} {xs : List α} {i : Nat} (hi : i < xs.length) (h : (xs.take i).all p = true) (h2 : p xs[i] = true) : (xs.take (i + 1)).all p = true := by
  rw [List.take_succ_eq_append_getElem hi, List.all_append, h, Bool.true_and, List.all_cons, h2]
  rfl
theorem all_not {α : Type} {p : α → Bool} {xs : List α} {i : Nat} (hi : i < xs.length) (h2 : p xs[i] = false) : xs.all p = false := by
  cases hh : xs.all p with
  | false => rfl
  | true => rw [List.all_eq_true] at hh; rw [hh _ (List.getElem_mem hi)] at h2; cases h2
/-- A step as it may be in code of m steps. -/
def okIn (m : Int) (o : Int × Int) : Bool :=
  if o.1 = 0 then decide (-2147483648 ≤ o.2 ∧ o.2 ≤ 2147483647)
  else if o.1 = 1 then decide (0 ≤ o.2 ∧ o.2 ≤ 23)
  else if o.1 = 2 ∨ o.1 = 3 ∨ o.1 = 4 ∨ o.1 = 5 ∨ o.1 = 7 then decide (0 ≤ o.2 ∧ o.2 < m)
  else if o.1 = 6 ∨ o.1 = 8 ∨ o.1 = 9 then decide (o.2 = 0) else false
/-- Code as it must be. -/
def codeOk (xs : List (Int × Int)) : Bool := decide (1 ≤ xs.length ∧ xs.length ≤ 1500) && (decide ((xs[xs.length - 1]?.getD (0, 0)).1 = 9) && xs.all (okIn xs.length))
theorem codeOk_len {xs : List (Int × Int)} (h : ¬ (1 ≤ xs.length ∧ xs.length ≤ 1500)) : codeOk xs = false := by unfold codeOk; rw [decide_eq_false h]; rfl
theorem codeOk_last {xs : List (Int × Int)} (h : (xs[xs.length - 1]?.getD (0, 0)).1 ≠ 9) : codeOk xs = false := by unfold codeOk; rw [decide_eq_false h]; simp
theorem codeOk_not {xs : List (Int × Int)} {i : Nat} (hi : i < xs.length) (h : okIn xs.length xs[i] = false) : codeOk xs = false := by unfold codeOk; rw [all_not hi h]; simp
theorem codeOk_all {xs : List (Int × Int)} (h1 : 1 ≤ xs.length ∧ xs.length ≤ 1500) (h2 : (xs[xs.length - 1]?.getD (0, 0)).1 = 9) (h : (xs.take xs.length).all (okIn xs.length) = true) : codeOk xs = true := by
  rw [List.take_length] at h
  unfold codeOk
  rw [h, decide_eq_true h1, decide_eq_true h2]
  rfl
theorem codeOk_parts {xs : List (Int × Int)} (h : codeOk xs = true) : (1 ≤ xs.length ∧ xs.length ≤ 1500) ∧ (xs[xs.length - 1]?.getD (0, 0)).1 = 9 ∧ ∀ o ∈ xs, okIn xs.length o = true := by
  unfold codeOk at h
  simp only [Bool.and_eq_true, decide_eq_true_eq, List.all_eq_true] at h
  exact ⟨h.1, h.2.1, h.2.2⟩
end Go.Proofs.Ytmnfdbgiemappaa
