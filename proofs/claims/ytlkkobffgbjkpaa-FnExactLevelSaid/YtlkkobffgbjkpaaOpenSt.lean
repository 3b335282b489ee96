/-
  A state that comes in, opened.
-/
import Derived.Test.YtlkkobffgbjkpaaStIn
import Derived.Test.YtlkkobffgbjkpaaOpenStore
import Derived.Test.YtlkkobffgbjkpaaOpenBytes
import Derived.Deep.Slices
namespace Go.Proofs.Ytlkkobffgbjkpaa
open Go.ChangeShapes Go.WideShapes Go.ChangeAt Go.RowKit Go

theorem lt_of_cell_o {w : World} {a : Addr} {v : Value} (h : w.cell? a = some v) : a.block < w.heap.size := by
  rcases Nat.lt_or_ge a.block w.heap.size with hl | hl
  · exact hl
  · have e : w.heap[a.block]? = none := Array.getElem?_eq_none hl
    simp [World.cell?, e] at h
/-- A list of signed numbers that comes in. -/
def SignedIn (W : World) (k : IntKind) (lo hi : Int) (A : Option Addr) (len c : Nat) : Prop :=
  len ≤ 9223372036854775807 ∧ len ≤ c ∧ (len ≤ 4611686018427387904 → ∃ xs : List Int, xs.length = len ∧ (∀ x ∈ xs, lo ≤ x ∧ x ≤ hi) ∧ ∀ i (h : i < xs.length), ∃ a, A = some a ∧ a.block < W.heap.size ∧ W.cell? (a.add i) = some (.int k xs[i]))
theorem signed_cell {H : Type} {enc : TypeId × Value → H} {P : Program} {W : World} {t e : TypeId} {k : IntKind} {lo hi : Int} {c0 : Value} {fuel : Nat} {x : DataW H × List MemPlace} (hk : ∀ n, (Lit.int k n).wf = true → lo ≤ n ∧ n ≤ hi)
    (ht : P.underlying t = some (.slice e)) (he : P.underlying e = some (.int k)) (hc : P.cellsOf e = 1) (hf : DataW.trod enc P W 0 (fun _ => true) true fuel t [c0] = some x) : ∃ A len c, c0 = .slice A len c ∧ SignedIn W k lo hi A len c := by
  rcases open_ints ht he hc hf with ⟨hcs, -⟩ | ⟨a, len, cap, zs, hcs, -, hl, hm, hz, -, hcell, hwz⟩
  · obtain rfl : c0 = .slice none 0 0 := by simpa using hcs
    exact ⟨none, 0, 0, rfl, by omega, by omega, fun _ => ⟨[], rfl, fun x hx => by simp at hx, fun i hi => by simp at hi⟩⟩
  · obtain rfl : c0 = .slice (some a) len cap := by simpa using hcs
    unfold maxLen at hm
    simp at hz
    refine ⟨some a, len, cap, rfl, by omega, hl, fun h62 => ⟨zs.take len, by simp; omega, fun x hx => hk x (hwz x (List.mem_of_mem_take hx)), fun i hi => ⟨a, rfl, ?_, ?_⟩⟩⟩
    · have h1 := lt_of_cell_o (hcell i (by simp at hi; omega))
      rw [addr_addb] at h1
      exact h1
    · have hi2 : i < len := by simp at hi; omega
      rw [hcell i (by omega)]
      simp [List.getD, List.getElem?_eq_getElem (show i < zs.length by omega)]
theorem wf32 (n : Int) (h : (Lit.int .i32 n).wf = true) : -2147483648 ≤ n ∧ n ≤ 2147483647 := by
  simp [Lit.wf, IntKind.min, IntKind.max, IntKind.signed, IntKind.bits] at h
  omega
theorem wf64 (n : Int) (h : (Lit.int .i64 n).wf = true) : -9223372036854775808 ≤ n ∧ n ≤ 9223372036854775807 := by
  simp [Lit.wf, IntKind.min, IntKind.max, IntKind.signed, IntKind.bits] at h
  omega
/-- A list of slots that comes in. -/
def SlotsIn (W : World) (A : Option Addr) (len c : Nat) : Prop :=
  len ≤ 9223372036854775807 ∧ (len ≤ 4611686018427387904 → ∃ xs : List (Int × Int), xs.length = len ∧ (∀ x ∈ xs, (-9223372036854775808 ≤ x.1 ∧ x.1 ≤ 9223372036854775807) ∧ (-2147483648 ≤ x.2 ∧ x.2 ≤ 2147483647)) ∧ RdS W (.slice A len c) xs)
set_option maxRecDepth 100000 in
theorem slots_cell {H : Type} {enc : TypeId × Value → H} {W : World} {c0 : Value} {fuel : Nat} {x : DataW H × List MemPlace}
    (hf : DataW.trod enc Try.prog W 0 (fun _ => true) true fuel 51 [c0] = some x) : ∃ A len c, c0 = .slice A len c ∧ SlotsIn W A len c := by
  have kz : Try.prog.cellsOf 143 = 2 := by kernel_rfl
  have k1 : Try.prog.cellsOf 3 = 1 := by kernel_rfl
  have k2 : Try.prog.cellsOf 21 = 1 := by kernel_rfl
  rcases Go.Deep.open_slice Try.underlying51 hf with ⟨hcs, -⟩ | ⟨a, len, cap, m, n, D, Pl, hcs, -, hl, hm, hmm, -, hi⟩
  · obtain rfl : c0 = .slice none 0 0 := by simpa using hcs
    exact ⟨none, 0, 0, rfl, by omega, fun _ => ⟨[], rfl, fun x hx => by simp at hx, none, 0, rfl, by simp, fun i hi => by simp at hi⟩⟩
  · obtain rfl : c0 = .slice (some a) len cap := by simpa using hcs
    unfold maxLen at hm
    have hlm : len ≤ m := by rw [hmm]; split <;> omega
    have key : ∀ i, i < len → ∃ u z : Int, ((-9223372036854775808 ≤ u ∧ u ≤ 9223372036854775807) ∧ (-2147483648 ≤ z ∧ z ≤ 2147483647)) ∧ W.cell? (a.add (i * 2)) = some (.int .i64 u) ∧ W.cell? ((a.add (i * 2)).add 1) = some (.int .i32 z) := by
      intro i hil
      obtain ⟨cs', hcc, htr⟩ := hi i (by omega)
      rw [kz] at hcc
      obtain ⟨_, hcl, hat⟩ := World.cells?_some hcc
      obtain ⟨ys, n', _, _, _, hyl, hff⟩ := DataW.trod_struct Try.underlying143 htr
      match cs', hcl with
      | [y0, y1], _ =>
        have l2 : ys.length = 2 := hyl
        have f0 : DataW.trod enc Try.prog W 0 (fun _ => true) true n' 3 (([y0, y1].drop 0).take (Try.prog.cellsOf 3)) = some (ys[0]'(by omega)) := (hff 0 _ rfl).trans (List.getElem?_eq_getElem (show 0 < ys.length by omega))
        have f1 : DataW.trod enc Try.prog W 0 (fun _ => true) true n' 21 (([y0, y1].drop 1).take (Try.prog.cellsOf 21)) = some (ys[1]'(by omega)) := (hff 1 _ rfl).trans (List.getElem?_eq_getElem (show 1 < ys.length by omega))
        rw [k1] at f0
        rw [k2] at f1
        obtain ⟨u, hu, -, wu⟩ := DataW.trod_int Try.underlying3 f0
        obtain ⟨z, hz, -, wz⟩ := DataW.trod_int Try.underlying21 f1
        have hu' : y0 = .int .i64 u := by simpa using hu
        have hz' : y1 = .int .i32 z := by simpa using hz
        refine ⟨u, z, ⟨wf64 u wu, wf32 z wz⟩, ?_, ?_⟩
        · have := hat 0 (by omega)
          rw [show (a.add (i * 2)).add 0 = a.add (i * 2) by simp [Addr.add]] at this
          rw [this, hu']
          rfl
        · rw [hat 1 (by omega), hz']
          rfl
    refine ⟨some a, len, cap, rfl, by omega, fun h62 => ?_⟩
    obtain ⟨f, hfx⟩ : ∃ f : Nat → Int × Int, ∀ i, i < len → ((-9223372036854775808 ≤ (f i).1 ∧ (f i).1 ≤ 9223372036854775807) ∧ (-2147483648 ≤ (f i).2 ∧ (f i).2 ≤ 2147483647)) ∧ W.cell? (a.add (i * 2)) = some (.int .i64 (f i).1) ∧ W.cell? ((a.add (i * 2)).add 1) = some (.int .i32 (f i).2) := by
      refine ⟨fun i => if h : i < len then (Classical.choose (key i h), Classical.choose (Classical.choose_spec (key i h))) else (0, 0), fun i h => ?_⟩
      have hs := Classical.choose_spec (Classical.choose_spec (key i h))
      simp only [dif_pos h]
      exact hs
    refine ⟨(List.range len).map f, by simp, fun x hx => ?_, some a, cap, by simp, by simp; omega, fun i hi => ?_⟩
    · obtain ⟨i, hi, rfl⟩ := List.mem_map.1 hx
      exact (hfx i (List.mem_range.1 hi)).1
    · have hil : i < len := by simpa using hi
      have h3 := (hfx i hil).2
      refine ⟨a, rfl, ?_, by simpa using h3.1, by simpa using h3.2⟩
      have h1 := lt_of_cell_o h3.1
      rw [addr_addb] at h1
      exact h1
theorem array10 {α : Type} {cs : Array α} (h : cs.size = 10) : ∃ x0 x1 x2 x3 x4 x5 x6 x7 x8 x9, cs = #[x0, x1, x2, x3, x4, x5, x6, x7, x8, x9] := by
  obtain ⟨l⟩ := cs
  match l, h with
  | [x0, x1, x2, x3, x4, x5, x6, x7, x8, x9], _ => exact ⟨x0, x1, x2, x3, x4, x5, x6, x7, x8, x9, rfl⟩
set_option maxRecDepth 100000 in
set_option maxHeartbeats 4000000 in
theorem st_in {H : Type} {enc : TypeId × Value → H} {W : World} {rc : Reach} {base : Nat} {v : Value} {d : DataW H} {p : List MemPlace}
    (hv : Value.okWide Try.prog W rc base 55 v) (h : DataW.Trod enc Try.prog W 0 (fun _ => true) true 55 v d p) :
    ∃ (A0 : Option Addr) (n0 c0 : Nat) (A1 : Option Addr) (n1 c1 : Nat) (A2 : Option Addr) (n2 c2 : Nat) (A3 : Option Addr) (n3 c3 : Nat) (A4 : Option Addr) (n4 c4 : Nat) (A5 : Option Addr) (n5 c5 : Nat) (A6 : Option Addr) (n6 c6 : Nat) (xa xf xu : Int), v = .agg #[.slice A0 n0 c0, .slice A1 n1 c1, .int .i32 xa, .slice A2 n2 c2, .slice A3 n3 c3, .slice A4 n4 c4, .slice A5 n5 c5, .slice A6 n6 c6, .int .i64 xf, .int .i64 xu] ∧ (n0 ≤ 9223372036854775807 ∧ n1 ≤ 9223372036854775807 ∧ n2 ≤ 9223372036854775807 ∧ n3 ≤ 9223372036854775807 ∧ n4 ≤ 9223372036854775807 ∧ n5 ≤ 9223372036854775807 ∧ n6 ≤ 9223372036854775807) ∧
      StIn W (.slice A0 n0 c0) (.slice A1 n1 c1) (.slice A2 n2 c2) (.slice A3 n3 c3) (.slice A4 n4 c4) (.slice A5 n5 c5) (.slice A6 n6 c6) xa xf xu n0 n1 n2 n3 n4 n5 n6 := by
  obtain ⟨cs, rfl, hsz⟩ := okWide_struct Try.underlying55 hv
  obtain ⟨x0, x1, x2, x3, x4, x5, x6, x7, x8, x9, rfl⟩ := array10 (hsz.trans (by kernel_rfl))
  obtain ⟨fuel, hf⟩ := h
  obtain ⟨xs, n, _, hx, hl, hlen, hff⟩ := DataW.trod_struct Try.underlying55 hf
  have hlen : xs.length = 10 := hlen
  have q0 : DataW.trod enc Try.prog W 0 (fun _ => true) true n 50 [x0] = some (xs[0]'(by omega)) := (hff 0 _ rfl).trans (List.getElem?_eq_getElem (show 0 < xs.length by omega))
  have q1 : DataW.trod enc Try.prog W 0 (fun _ => true) true n 51 [x1] = some (xs[1]'(by omega)) := (hff 1 _ rfl).trans (List.getElem?_eq_getElem (show 1 < xs.length by omega))
  have q2 : DataW.trod enc Try.prog W 0 (fun _ => true) true n 21 [x2] = some (xs[2]'(by omega)) := (hff 2 _ rfl).trans (List.getElem?_eq_getElem (show 2 < xs.length by omega))
  have q3 : DataW.trod enc Try.prog W 0 (fun _ => true) true n 50 [x3] = some (xs[3]'(by omega)) := (hff 3 _ rfl).trans (List.getElem?_eq_getElem (show 3 < xs.length by omega))
  have q4 : DataW.trod enc Try.prog W 0 (fun _ => true) true n 52 [x4] = some (xs[4]'(by omega)) := (hff 4 _ rfl).trans (List.getElem?_eq_getElem (show 4 < xs.length by omega))
  have q5 : DataW.trod enc Try.prog W 0 (fun _ => true) true n 53 [x5] = some (xs[5]'(by omega)) := (hff 5 _ rfl).trans (List.getElem?_eq_getElem (show 5 < xs.length by omega))
  have q6 : DataW.trod enc Try.prog W 0 (fun _ => true) true n 22 [x6] = some (xs[6]'(by omega)) := (hff 6 _ rfl).trans (List.getElem?_eq_getElem (show 6 < xs.length by omega))
  have q7 : DataW.trod enc Try.prog W 0 (fun _ => true) true n 22 [x7] = some (xs[7]'(by omega)) := (hff 7 _ rfl).trans (List.getElem?_eq_getElem (show 7 < xs.length by omega))
  have q8 : DataW.trod enc Try.prog W 0 (fun _ => true) true n 3 [x8] = some (xs[8]'(by omega)) := (hff 8 _ rfl).trans (List.getElem?_eq_getElem (show 8 < xs.length by omega))
  have q9 : DataW.trod enc Try.prog W 0 (fun _ => true) true n 3 [x9] = some (xs[9]'(by omega)) := (hff 9 _ rfl).trans (List.getElem?_eq_getElem (show 9 < xs.length by omega))
  obtain ⟨A0, n0, c0, rfl, l0⟩ := signed_cell wf32 Try.underlying50 Try.underlying21 (by kernel_rfl) q0
  obtain ⟨A1, n1, c1, rfl, l1⟩ := slots_cell q1
  obtain ⟨xa, hxa, -, wa⟩ := DataW.trod_int Try.underlying21 q2
  obtain ⟨A2, n2, c2, rfl, l2⟩ := signed_cell wf32 Try.underlying50 Try.underlying21 (by kernel_rfl) q3
  obtain ⟨A3, n3, c3, rfl, l3⟩ := nums_cell Try.underlying52 Try.underlying144 (by kernel_rfl) q4
  obtain ⟨A4, n4, c4, rfl, l4⟩ := signed_cell wf64 Try.underlying53 Try.underlying3 (by kernel_rfl) q5
  obtain ⟨A5, n5, c5, rfl, l5⟩ := bytes_cell Try.underlying22 Try.underlying5 (by kernel_rfl) q6
  obtain ⟨A6, n6, c6, rfl, l6⟩ := bytes_cell Try.underlying22 Try.underlying5 (by kernel_rfl) q7
  obtain ⟨xf, hxf, -, wf⟩ := DataW.trod_int Try.underlying3 q8
  obtain ⟨xu, hxu, -, wu⟩ := DataW.trod_int Try.underlying3 q9
  obtain rfl : x2 = .int .i32 xa := by simpa using hxa
  obtain rfl : x8 = .int .i64 xf := by simpa using hxf
  obtain rfl : x9 = .int .i64 xu := by simpa using hxu
  refine ⟨A0, n0, c0, A1, n1, c1, A2, n2, c2, A3, n3, c3, A4, n4, c4, A5, n5, c5, A6, n6, c6, xa, xf, xu, rfl, ⟨l0.1, l1.1, l2.1, l3.1, l4.1, l5.1, l6.1⟩, fun hs => ?_⟩
  obtain ⟨y0, e0, b0, r0⟩ := l0.2.2 (by omega)
  obtain ⟨y1, e1, b1, r1⟩ := l1.2 (by omega)
  obtain ⟨y2, e2, b2, r2⟩ := l2.2.2 (by omega)
  obtain ⟨y3, e3, b3, r3⟩ := l3.2 (by omega)
  obtain ⟨y4, e4, b4, r4⟩ := l4.2.2 (by omega)
  obtain ⟨y5, e5, b5, r5⟩ := l5.2 (by omega)
  obtain ⟨y6, e6, b6, r6⟩ := l6.2 (by omega)
  refine ⟨⟨y0, y1, xa, y2, y3, y4, y5, y6, xf, xu⟩, e0, e1, e2, e3, e4, e5, e6, rfl, rfl, rfl, ⟨b0, b1, wf32 xa wa, b2, b3, b4, b5, b6, wf64 xf wf, wf64 xu wu⟩, ⟨fun A n c e => by injection e with h1 h2 h3; subst h2 h3; exact l4.2.1, ?_, r1, ?_, r3, ?_, r5, r6⟩⟩
  · exact ⟨A0, c0, by rw [← e0], by show y0.length ≤ _; omega, r0⟩
  · exact ⟨A2, c2, by rw [← e2], by show y2.length ≤ _; omega, r2⟩
  · exact ⟨A4, c4, by rw [← e4], by show y4.length ≤ _; omega, r4⟩
end Go.Proofs.Ytlkkobffgbjkpaa
