/-
  A state that comes in.
  A list, a store that comes in.
  Bytes that come in.
  A state that comes in, opened.
  Whether two states are alike.
  Marks of each kind of list, at any place.
  Marks in a state.
-/
import Derived.Test.YtmnfdbgiemappaaST3
import Derived.Test.YtmnfdbgiemappaaST1
import Derived.ChangeSlices
import Derived.Lib.SmallJoins
import Derived.Test.YtmnfdbgiemappaaST2
import Derived.Deep.Slices
namespace Go.Proofs.Ytmnfdbgiemappaa
open Go.RowKit Go

/-- A state whose numbers are of their kinds. -/
structure In8 (S : S8) : Prop where
  data : ∀ x ∈ S.data, -2147483648 ≤ x ∧ x ≤ 2147483647
  ret : ∀ x ∈ S.ret, (-9223372036854775808 ≤ x.1 ∧ x.1 ≤ 9223372036854775807) ∧ (-2147483648 ≤ x.2 ∧ x.2 ≤ 2147483647)
  a : -2147483648 ≤ S.a ∧ S.a ≤ 2147483647
  mem : ∀ x ∈ S.mem, -2147483648 ≤ x ∧ x ≤ 2147483647
  cells : ∀ x ∈ S.cells, x < 4294967296
  vars : ∀ x ∈ S.vars, -9223372036854775808 ≤ x ∧ x ≤ 9223372036854775807
  out : ∀ x ∈ S.out, x < 256
  inp : ∀ x ∈ S.inp, x < 256
  fault : -9223372036854775808 ≤ S.fault ∧ S.fault ≤ 9223372036854775807
  fuel : -9223372036854775808 ≤ S.fuel ∧ S.fuel ≤ 9223372036854775807
/-- A state that comes in. -/
def StIn (w : World) (d r m c v o i : Value) (xa xf xu : Int) (n0 n1 n2 n3 n4 n5 n6 : Nat) : Prop :=
  n0 + n1 + n2 + n3 + n4 + n5 + n6 ≤ 4611686018427387904 → ∃ S : S8, S.data.length = n0 ∧ S.ret.length = n1 ∧ S.mem.length = n2 ∧ S.cells.length = n3 ∧ S.vars.length = n4 ∧ S.out.length = n5 ∧ S.inp.length = n6 ∧ S.a = xa ∧ S.fault = xf ∧ S.fuel = xu ∧ In8 S ∧ RdSt w d r m c v o i S
end Go.Proofs.Ytmnfdbgiemappaa

namespace Go.Proofs.Ytmnfdbgiemappaa
open Go.ChangeShapes Go.WideShapes Go.ChangeAt Go.RowKit Go

theorem lt_of_cell_s {w : World} {a : Addr} {v : Value} (h : w.cell? a = some v) : a.block < w.heap.size := by
  rcases Nat.lt_or_ge a.block w.heap.size with hl | hl
  · exact hl
  · have e : w.heap[a.block]? = none := Array.getElem?_eq_none hl
    simp [World.cell?, e] at h
/-- A list of numbers of 32 bits that comes in. -/
def NumsIn (W : World) (A : Option Addr) (len c : Nat) : Prop := len ≤ 9223372036854775807 ∧ (len ≤ 4611686018427387904 → ∃ xs : List Nat, xs.length = len ∧ (∀ x ∈ xs, x < 4294967296) ∧ RdN W (.slice A len c) xs)
theorem nums_cell {H : Type} {enc : TypeId × Value → H} {P : Program} {W : World} {t e : TypeId} {c0 : Value} {fuel : Nat} {x : DataW H × List MemPlace}
    (ht : P.underlying t = some (.slice e)) (he : P.underlying e = some (.int .u32)) (hc : P.cellsOf e = 1) (hf : DataW.trod enc P W 0 (fun _ => true) true fuel t [c0] = some x) : ∃ A len c, c0 = .slice A len c ∧ NumsIn W A len c := by
  rcases open_ints ht he hc hf with ⟨hcs, -⟩ | ⟨a, len, cap, zs, hcs, -, hl, hm, hz, -, hcell, hwz⟩
  · obtain rfl : c0 = .slice none 0 0 := by simpa using hcs
    exact ⟨none, 0, 0, rfl, by omega, fun _ => ⟨[], rfl, fun x hx => by simp at hx, none, 0, rfl, by simp, fun i hi => by simp at hi⟩⟩
  · obtain rfl : c0 = .slice (some a) len cap := by simpa using hcs
    unfold maxLen at hm
    simp at hz
    have hb : ∀ j (hj : j < len), 0 ≤ zs[j]'(by omega) ∧ zs[j]'(by omega) < 4294967296 := fun j hj => by
      have hw := hwz _ (List.getElem_mem (show j < zs.length by omega))
      have : 0 ≤ zs[j]'(by omega) ∧ zs[j]'(by omega) ≤ 4294967295 := by
        simpa [Lit.wf, IntKind.min, IntKind.max, IntKind.signed, IntKind.bits] using hw
      omega
    refine ⟨some a, len, cap, rfl, by omega, fun h62 => ⟨(zs.take len).map Int.toNat, by simp; omega, ?_, some a, cap, by simp; omega, by simp; omega, fun i hi => ⟨a, rfl, ?_, ?_⟩⟩⟩
    · intro x hx
      obtain ⟨j, hj, rfl⟩ := List.getElem_of_mem hx
      simp at hj ⊢
      have := hb j (by omega)
      omega
    · have h1 := lt_of_cell_s (hcell i (by simp at hi; omega))
      rw [addr_addb] at h1
      exact h1
    · have hi2 : i < len := by simp at hi; omega
      have h1 := hcell i (by omega)
      have h2 := hb i hi2
      rw [h1]
      unfold u32v
      simp [List.getD, List.getElem?_eq_getElem (show i < zs.length by omega)]
      omega
theorem nums_in {H : Type} {enc : TypeId × Value → H} {P : Program} {W : World} {t e : TypeId} {A : Option Addr} {len cap : Nat} {d : DataW H} {p : List MemPlace}
    (ht : P.underlying t = some (.slice e)) (he : P.underlying e = some (.int .u32)) (hc : P.cellsOf e = 1) (h : DataW.Trod enc P W 0 (fun _ => true) true t (.slice A len cap) d p) : NumsIn W A len cap := by
  obtain ⟨fuel, hf⟩ := h
  obtain ⟨A2, len2, c2, e2, hn⟩ := nums_cell ht he hc (show DataW.trod enc P W 0 (fun _ => true) true fuel t [.slice A len cap] = some (d, p) from hf)
  injection e2 with h1 h2 h3
  subst h1 h2 h3
  exact hn
theorem array1 {α : Type} {cs : Array α} (h : cs.size = 1) : ∃ c0, cs = #[c0] := by
  obtain ⟨l⟩ := cs
  match l, h with
  | [c0], _ => exact ⟨c0, rfl⟩
theorem store_in {H : Type} {enc : TypeId × Value → H} {P : Program} {W : World} {rc : Reach} {base : Nat} {t e u : TypeId} {f0 : Field} {v : Value} {d : DataW H} {p : List MemPlace}
    (hs : P.underlying t = some (.struct #[f0])) (hC : P.cellsOf t = 1) (h0 : f0.type = u) (h1 : f0.offset = 0) (hu1 : P.cellsOf u = 1)
    (ht : P.underlying u = some (.slice e)) (he : P.underlying e = some (.int .u32)) (hc : P.cellsOf e = 1)
    (hv : Value.okWide P W rc base t v) (h : DataW.Trod enc P W 0 (fun _ => true) true t v d p) : ∃ A len c, v = stA (.slice A len c) ∧ NumsIn W A len c := by
  obtain ⟨cs, rfl, hsz⟩ := okWide_struct hs hv
  obtain ⟨c0, rfl⟩ := array1 (hsz.trans hC)
  obtain ⟨fuel, hf⟩ := h
  obtain ⟨xs, n, _, hx, hl, hlen, hff⟩ := DataW.trod_struct hs hf
  have hf0 := hff 0 f0 rfl
  rw [h0, h1, hu1] at hf0
  match xs, hlen with
  | [y0], _ =>
    have hf1 : DataW.trod enc P W 0 (fun _ => true) true n u [c0] = some y0 := by simpa [Value.cells] using hf0
    obtain ⟨A, len, c, rfl, hn⟩ := nums_cell ht he hc hf1
    exact ⟨A, len, c, rfl, hn⟩
end Go.Proofs.Ytmnfdbgiemappaa

namespace Go.Proofs.Ytmnfdbgiemappaa
open Go.ChangeShapes Go.WideShapes Go.ChangeAt Go.RowKit Go

theorem lt_of_cell_b {w : World} {a : Addr} {v : Value} (h : w.cell? a = some v) : a.block < w.heap.size := by
  rcases Nat.lt_or_ge a.block w.heap.size with hl | hl
  · exact hl
  · have e : w.heap[a.block]? = none := Array.getElem?_eq_none hl
    simp [World.cell?, e] at h
/-- Bytes that come in. -/
def BytesIn (W : World) (A : Option Addr) (len c : Nat) : Prop := len ≤ 9223372036854775807 ∧ (len ≤ 4611686018427387904 → ∃ xs : List Nat, xs.length = len ∧ (∀ x ∈ xs, x < 256) ∧ RdM W (.slice A len c) xs)
theorem bytes_cell {H : Type} {enc : TypeId × Value → H} {P : Program} {W : World} {t e : TypeId} {c0 : Value} {fuel : Nat} {x : DataW H × List MemPlace}
    (ht : P.underlying t = some (.slice e)) (he : P.underlying e = some (.int .u8)) (hc : P.cellsOf e = 1) (hf : DataW.trod enc P W 0 (fun _ => true) true fuel t [c0] = some x) : ∃ A len c, c0 = .slice A len c ∧ BytesIn W A len c := by
  rcases open_ints ht he hc hf with ⟨hcs, -⟩ | ⟨a, len, cap, zs, hcs, -, hl, hm, hz, -, hcell, hwz⟩
  · obtain rfl : c0 = .slice none 0 0 := by simpa using hcs
    exact ⟨none, 0, 0, rfl, by omega, fun _ => ⟨[], rfl, fun x hx => by simp at hx, none, 0, rfl, by simp, fun i hi => by simp at hi⟩⟩
  · obtain rfl : c0 = .slice (some a) len cap := by simpa using hcs
    unfold maxLen at hm
    simp at hz
    have hb : ∀ j (hj : j < len), 0 ≤ zs[j]'(by omega) ∧ zs[j]'(by omega) < 256 := fun j hj => by
      have hw := hwz _ (List.getElem_mem (show j < zs.length by omega))
      have : 0 ≤ zs[j]'(by omega) ∧ zs[j]'(by omega) ≤ 255 := by
        simpa [Lit.wf, IntKind.min, IntKind.max, IntKind.signed, IntKind.bits] using hw
      omega
    refine ⟨some a, len, cap, rfl, by omega, fun h62 => ⟨(zs.take len).map Int.toNat, by simp; omega, ?_, some a, cap, by simp; omega, by simp; omega, fun i hi => ⟨a, rfl, ?_, ?_⟩⟩⟩
    · intro x hx
      obtain ⟨j, hj, rfl⟩ := List.getElem_of_mem hx
      simp at hj ⊢
      have := hb j (by omega)
      omega
    · have h1 := lt_of_cell_b (hcell i (by simp at hi; omega))
      rw [addr_addb] at h1
      exact h1
    · have hi2 : i < len := by simp at hi; omega
      have h1 := hcell i (by omega)
      have h2 := hb i hi2
      rw [h1]
      unfold b8v
      simp [List.getD, List.getElem?_eq_getElem (show i < zs.length by omega)]
      omega
theorem bytes_in {H : Type} {enc : TypeId × Value → H} {P : Program} {W : World} {t e : TypeId} {A : Option Addr} {len cap : Nat} {d : DataW H} {p : List MemPlace}
    (ht : P.underlying t = some (.slice e)) (he : P.underlying e = some (.int .u8)) (hc : P.cellsOf e = 1) (h : DataW.Trod enc P W 0 (fun _ => true) true t (.slice A len cap) d p) : BytesIn W A len cap := by
  obtain ⟨fuel, hf⟩ := h
  obtain ⟨A2, len2, c2, e2, hn⟩ := bytes_cell ht he hc (show DataW.trod enc P W 0 (fun _ => true) true fuel t [.slice A len cap] = some (d, p) from hf)
  injection e2 with h1 h2 h3
  subst h1 h2 h3
  exact hn
end Go.Proofs.Ytmnfdbgiemappaa

namespace Go.Proofs.Ytmnfdbgiemappaa
open Go.ChangeShapes Go.WideShapes Go.ChangeAt Go.RowKit Go

theorem lt_of_cell_o {w : World} {a : Addr} {v : Value} (h : w.cell? a = some v) : a.block < w.heap.size := by
  rcases Nat.lt_or_ge a.block w.heap.size with hl | hl
  · exact hl
  · have e : w.heap[a.block]? = none := Array.getElem?_eq_none hl
    simp [World.cell?, e] at h
/-- A list of signed numbers that comes in. -/
def SignedIn (W : World) (k : IntKind) (lo hi : Int) (A : Option Addr) (len c : Nat) : Prop :=
  len ≤ 9223372036854775807 ∧ len ≤ c ∧ (len ≤ 4611686018427387904 → ∃ xs : List Int, xs.length = len ∧ (∀ x ∈ xs, lo ≤ x ∧ x ≤ hi) ∧ ∀ i (h : i < xs.length), ∃ a, A = some a ∧ a.block < W.heap.size ∧ W.cell? (a.add i) = some (.int k xs[i]))
theorem signed_cell {H : Type} {enc : TypeId × Value → H} {P : Program} {W : World} {t e : TypeId} {k : IntKind} {lo hi : Int} {c0 : Value} {fuel : Nat} {x : DataW H × List MemPlace} (hk : ∀ n, (Lit.int k n).wf = true → lo ≤ n ∧ n ≤ hi)
    (ht : P.underlying t = some (.slice e)) (he : P.underlying e = some (.int k)) (hc : P.cellsOf e = 1) (hf : DataW.trod enc P W 0 (fun _ => true) true fuel t [c0] = some x) : ∃ A len c, c0 = .slice A len c ∧ SignedIn W k lo hi A len c := by
  rcases open_ints ht he hc hf with ⟨hcs, -⟩ | ⟨a, len, cap, zs, hcs, -, hl, hm, hz, -, hcell, hwz⟩
  · obtain rfl : c0 = .slice none 0 0 := by simpa using hcs
    exact ⟨none, 0, 0, rfl, by omega, by omega, fun _ => ⟨[], rfl, fun x hx => by simp at hx, fun i hi => by simp at hi⟩⟩
  · obtain rfl : c0 = .slice (some a) len cap := by simpa using hcs
    unfold maxLen at hm
    simp at hz
    refine ⟨some a, len, cap, rfl, by omega, hl, fun h62 => ⟨zs.take len, by simp; omega, fun x hx => hk x (hwz x (List.mem_of_mem_take hx)), fun i hi => ⟨a, rfl, ?_, ?_⟩⟩⟩
    · have h1 := lt_of_cell_o (hcell i (by simp at hi; omega))
      rw [addr_addb] at h1
      exact h1
    · have hi2 : i < len := by simp at hi; omega
      rw [hcell i (by omega)]
      simp [List.getD, List.getElem?_eq_getElem (show i < zs.length by omega)]
theorem wf32 (n : Int) (h : (Lit.int .i32 n).wf = true) : -2147483648 ≤ n ∧ n ≤ 2147483647 := by
  simp [Lit.wf, IntKind.min, IntKind.max, IntKind.signed, IntKind.bits] at h
  omega
theorem wf64 (n : Int) (h : (Lit.int .i64 n).wf = true) : -9223372036854775808 ≤ n ∧ n ≤ 9223372036854775807 := by
  simp [Lit.wf, IntKind.min, IntKind.max, IntKind.signed, IntKind.bits] at h
  omega
/-- A list of slots that comes in. -/
def SlotsIn (W : World) (A : Option Addr) (len c : Nat) : Prop :=
  len ≤ 9223372036854775807 ∧ (len ≤ 4611686018427387904 → ∃ xs : List (Int × Int), xs.length = len ∧ (∀ x ∈ xs, (-9223372036854775808 ≤ x.1 ∧ x.1 ≤ 9223372036854775807) ∧ (-2147483648 ≤ x.2 ∧ x.2 ≤ 2147483647)) ∧ RdS W (.slice A len c) xs)
set_option maxRecDepth 100000 in
theorem slots_cell {H : Type} {enc : TypeId × Value → H} {W : World} {c0 : Value} {fuel : Nat} {x : DataW H × List MemPlace}
    (hf : DataW.trod enc Try.prog W 0 (fun _ => true) true fuel 24 [c0] = some x) : ∃ A len c, c0 = .slice A len c ∧ SlotsIn W A len c := by
  have kz : Try.prog.cellsOf 94 = 2 := by kernel_rfl
  have k1 : Try.prog.cellsOf 3 = 1 := by kernel_rfl
  have k2 : Try.prog.cellsOf 21 = 1 := by kernel_rfl
  rcases Go.Deep.open_slice Try.underlying24 hf with ⟨hcs, -⟩ | ⟨a, len, cap, m, n, D, Pl, hcs, -, hl, hm, hmm, -, hi⟩
  · obtain rfl : c0 = .slice none 0 0 := by simpa using hcs
    exact ⟨none, 0, 0, rfl, by omega, fun _ => ⟨[], rfl, fun x hx => by simp at hx, none, 0, rfl, by simp, fun i hi => by simp at hi⟩⟩
  · obtain rfl : c0 = .slice (some a) len cap := by simpa using hcs
    unfold maxLen at hm
    have hlm : len ≤ m := by rw [hmm]; split <;> omega
    have key : ∀ i, i < len → ∃ u z : Int, ((-9223372036854775808 ≤ u ∧ u ≤ 9223372036854775807) ∧ (-2147483648 ≤ z ∧ z ≤ 2147483647)) ∧ W.cell? (a.add (i * 2)) = some (.int .i64 u) ∧ W.cell? ((a.add (i * 2)).add 1) = some (.int .i32 z) := by
      intro i hil
      obtain ⟨cs', hcc, htr⟩ := hi i (by omega)
      rw [kz] at hcc
      obtain ⟨_, hcl, hat⟩ := World.cells?_some hcc
      obtain ⟨ys, n', _, _, _, hyl, hff⟩ := DataW.trod_struct Try.underlying94 htr
      match cs', hcl with
      | [y0, y1], _ =>
        have l2 : ys.length = 2 := hyl
        have f0 : DataW.trod enc Try.prog W 0 (fun _ => true) true n' 3 (([y0, y1].drop 0).take (Try.prog.cellsOf 3)) = some (ys[0]'(by omega)) := (hff 0 _ rfl).trans (List.getElem?_eq_getElem (show 0 < ys.length by omega))
        have f1 : DataW.trod enc Try.prog W 0 (fun _ => true) true n' 21 (([y0, y1].drop 1).take (Try.prog.cellsOf 21)) = some (ys[1]'(by omega)) := (hff 1 _ rfl).trans (List.getElem?_eq_getElem (show 1 < ys.length by omega))
        rw [k1] at f0
        rw [k2] at f1
        obtain ⟨u, hu, -, wu⟩ := DataW.trod_int Try.underlying3 f0
        obtain ⟨z, hz, -, wz⟩ := DataW.trod_int Try.underlying21 f1
        have hu' : y0 = .int .i64 u := by simpa using hu
        have hz' : y1 = .int .i32 z := by simpa using hz
        refine ⟨u, z, ⟨wf64 u wu, wf32 z wz⟩, ?_, ?_⟩
        · have := hat 0 (by omega)
          rw [show (a.add (i * 2)).add 0 = a.add (i * 2) by simp [Addr.add]] at this
          rw [this, hu']
          rfl
        · rw [hat 1 (by omega), hz']
          rfl
    refine ⟨some a, len, cap, rfl, by omega, fun h62 => ?_⟩
    obtain ⟨f, hfx⟩ : ∃ f : Nat → Int × Int, ∀ i, i < len → ((-9223372036854775808 ≤ (f i).1 ∧ (f i).1 ≤ 9223372036854775807) ∧ (-2147483648 ≤ (f i).2 ∧ (f i).2 ≤ 2147483647)) ∧ W.cell? (a.add (i * 2)) = some (.int .i64 (f i).1) ∧ W.cell? ((a.add (i * 2)).add 1) = some (.int .i32 (f i).2) := by
      refine ⟨fun i => if h : i < len then (Classical.choose (key i h), Classical.choose (Classical.choose_spec (key i h))) else (0, 0), fun i h => ?_⟩
      have hs := Classical.choose_spec (Classical.choose_spec (key i h))
      simp only [dif_pos h]
      exact hs
    refine ⟨(List.range len).map f, by simp, fun x hx => ?_, some a, cap, by simp, by simp; omega, fun i hi => ?_⟩
    · obtain ⟨i, hi, rfl⟩ := List.mem_map.1 hx
      exact (hfx i (List.mem_range.1 hi)).1
    · have hil : i < len := by simpa using hi
      have h3 := (hfx i hil).2
      refine ⟨a, rfl, ?_, by simpa using h3.1, by simpa using h3.2⟩
      have h1 := lt_of_cell_o h3.1
      rw [addr_addb] at h1
      exact h1
theorem array10 {α : Type} {cs : Array α} (h : cs.size = 10) : ∃ x0 x1 x2 x3 x4 x5 x6 x7 x8 x9, cs = #[x0, x1, x2, x3, x4, x5, x6, x7, x8, x9] := by
  obtain ⟨l⟩ := cs
  match l, h with
  | [x0, x1, x2, x3, x4, x5, x6, x7, x8, x9], _ => exact ⟨x0, x1, x2, x3, x4, x5, x6, x7, x8, x9, rfl⟩
set_option maxRecDepth 100000 in
set_option maxHeartbeats 4000000 in
theorem st_in {H : Type} {enc : TypeId × Value → H} {W : World} {rc : Reach} {base : Nat} {v : Value} {d : DataW H} {p : List MemPlace}
    (hv : Value.okWide Try.prog W rc base 29 v) (h : DataW.Trod enc Try.prog W 0 (fun _ => true) true 29 v d p) :
    ∃ (A0 : Option Addr) (n0 c0 : Nat) (A1 : Option Addr) (n1 c1 : Nat) (A2 : Option Addr) (n2 c2 : Nat) (A3 : Option Addr) (n3 c3 : Nat) (A4 : Option Addr) (n4 c4 : Nat) (A5 : Option Addr) (n5 c5 : Nat) (A6 : Option Addr) (n6 c6 : Nat) (xa xf xu : Int), v = .agg #[.slice A0 n0 c0, .slice A1 n1 c1, .int .i32 xa, .slice A2 n2 c2, .slice A3 n3 c3, .slice A4 n4 c4, .slice A5 n5 c5, .slice A6 n6 c6, .int .i64 xf, .int .i64 xu] ∧ (n0 ≤ 9223372036854775807 ∧ n1 ≤ 9223372036854775807 ∧ n2 ≤ 9223372036854775807 ∧ n3 ≤ 9223372036854775807 ∧ n4 ≤ 9223372036854775807 ∧ n5 ≤ 9223372036854775807 ∧ n6 ≤ 9223372036854775807) ∧
      StIn W (.slice A0 n0 c0) (.slice A1 n1 c1) (.slice A2 n2 c2) (.slice A3 n3 c3) (.slice A4 n4 c4) (.slice A5 n5 c5) (.slice A6 n6 c6) xa xf xu n0 n1 n2 n3 n4 n5 n6 := by
  obtain ⟨cs, rfl, hsz⟩ := okWide_struct Try.underlying29 hv
  obtain ⟨x0, x1, x2, x3, x4, x5, x6, x7, x8, x9, rfl⟩ := array10 (hsz.trans (by kernel_rfl))
  obtain ⟨fuel, hf⟩ := h
  obtain ⟨xs, n, _, hx, hl, hlen, hff⟩ := DataW.trod_struct Try.underlying29 hf
  have hlen : xs.length = 10 := hlen
  have q0 : DataW.trod enc Try.prog W 0 (fun _ => true) true n 23 [x0] = some (xs[0]'(by omega)) := (hff 0 _ rfl).trans (List.getElem?_eq_getElem (show 0 < xs.length by omega))
  have q1 : DataW.trod enc Try.prog W 0 (fun _ => true) true n 24 [x1] = some (xs[1]'(by omega)) := (hff 1 _ rfl).trans (List.getElem?_eq_getElem (show 1 < xs.length by omega))
  have q2 : DataW.trod enc Try.prog W 0 (fun _ => true) true n 21 [x2] = some (xs[2]'(by omega)) := (hff 2 _ rfl).trans (List.getElem?_eq_getElem (show 2 < xs.length by omega))
  have q3 : DataW.trod enc Try.prog W 0 (fun _ => true) true n 23 [x3] = some (xs[3]'(by omega)) := (hff 3 _ rfl).trans (List.getElem?_eq_getElem (show 3 < xs.length by omega))
  have q4 : DataW.trod enc Try.prog W 0 (fun _ => true) true n 25 [x4] = some (xs[4]'(by omega)) := (hff 4 _ rfl).trans (List.getElem?_eq_getElem (show 4 < xs.length by omega))
  have q5 : DataW.trod enc Try.prog W 0 (fun _ => true) true n 26 [x5] = some (xs[5]'(by omega)) := (hff 5 _ rfl).trans (List.getElem?_eq_getElem (show 5 < xs.length by omega))
  have q6 : DataW.trod enc Try.prog W 0 (fun _ => true) true n 27 [x6] = some (xs[6]'(by omega)) := (hff 6 _ rfl).trans (List.getElem?_eq_getElem (show 6 < xs.length by omega))
  have q7 : DataW.trod enc Try.prog W 0 (fun _ => true) true n 27 [x7] = some (xs[7]'(by omega)) := (hff 7 _ rfl).trans (List.getElem?_eq_getElem (show 7 < xs.length by omega))
  have q8 : DataW.trod enc Try.prog W 0 (fun _ => true) true n 3 [x8] = some (xs[8]'(by omega)) := (hff 8 _ rfl).trans (List.getElem?_eq_getElem (show 8 < xs.length by omega))
  have q9 : DataW.trod enc Try.prog W 0 (fun _ => true) true n 3 [x9] = some (xs[9]'(by omega)) := (hff 9 _ rfl).trans (List.getElem?_eq_getElem (show 9 < xs.length by omega))
  obtain ⟨A0, n0, c0, rfl, l0⟩ := signed_cell wf32 Try.underlying23 Try.underlying21 (by kernel_rfl) q0
  obtain ⟨A1, n1, c1, rfl, l1⟩ := slots_cell q1
  obtain ⟨xa, hxa, -, wa⟩ := DataW.trod_int Try.underlying21 q2
  obtain ⟨A2, n2, c2, rfl, l2⟩ := signed_cell wf32 Try.underlying23 Try.underlying21 (by kernel_rfl) q3
  obtain ⟨A3, n3, c3, rfl, l3⟩ := nums_cell Try.underlying25 Try.underlying95 (by kernel_rfl) q4
  obtain ⟨A4, n4, c4, rfl, l4⟩ := signed_cell wf64 Try.underlying26 Try.underlying3 (by kernel_rfl) q5
  obtain ⟨A5, n5, c5, rfl, l5⟩ := bytes_cell Try.underlying27 Try.underlying5 (by kernel_rfl) q6
  obtain ⟨A6, n6, c6, rfl, l6⟩ := bytes_cell Try.underlying27 Try.underlying5 (by kernel_rfl) q7
  obtain ⟨xf, hxf, -, wf⟩ := DataW.trod_int Try.underlying3 q8
  obtain ⟨xu, hxu, -, wu⟩ := DataW.trod_int Try.underlying3 q9
  obtain rfl : x2 = .int .i32 xa := by simpa using hxa
  obtain rfl : x8 = .int .i64 xf := by simpa using hxf
  obtain rfl : x9 = .int .i64 xu := by simpa using hxu
  refine ⟨A0, n0, c0, A1, n1, c1, A2, n2, c2, A3, n3, c3, A4, n4, c4, A5, n5, c5, A6, n6, c6, xa, xf, xu, rfl, ⟨l0.1, l1.1, l2.1, l3.1, l4.1, l5.1, l6.1⟩, fun hs => ?_⟩
  obtain ⟨y0, e0, b0, r0⟩ := l0.2.2 (by omega)
  obtain ⟨y1, e1, b1, r1⟩ := l1.2 (by omega)
  obtain ⟨y2, e2, b2, r2⟩ := l2.2.2 (by omega)
  obtain ⟨y3, e3, b3, r3⟩ := l3.2 (by omega)
  obtain ⟨y4, e4, b4, r4⟩ := l4.2.2 (by omega)
  obtain ⟨y5, e5, b5, r5⟩ := l5.2 (by omega)
  obtain ⟨y6, e6, b6, r6⟩ := l6.2 (by omega)
  refine ⟨⟨y0, y1, xa, y2, y3, y4, y5, y6, xf, xu⟩, e0, e1, e2, e3, e4, e5, e6, rfl, rfl, rfl, ⟨b0, b1, wf32 xa wa, b2, b3, b4, b5, b6, wf64 xf wf, wf64 xu wu⟩, ⟨fun A n c e => by injection e with h1 h2 h3; subst h2 h3; exact l4.2.1, ?_, r1, ?_, r3, ?_, r5, r6⟩⟩
  · exact ⟨A0, c0, by rw [← e0], by show y0.length ≤ _; omega, r0⟩
  · exact ⟨A2, c2, by rw [← e2], by show y2.length ≤ _; omega, r2⟩
  · exact ⟨A4, c4, by rw [← e4], by show y4.length ≤ _; omega, r4⟩
end Go.Proofs.Ytmnfdbgiemappaa

namespace Go.Proofs.Ytmnfdbgiemappaa
open Go.RowKit Go

theorem eqbI (a b : Value) (xs : List Int) (w : World) (ha : RdI w a xs) (hb : RdI w b xs) : Calls Try.prog 38 #[a, b] w fun e w' => e = .returned (.bool true) ∧ Below w.heap.size w w' :=
  (eqI_same a b xs w ha hb).mono fun e w' ⟨h1, d, h2⟩ => ⟨h1, by rw [h2]; exact below_drewN (Below.refl _ _) d⟩
theorem eqbL (a b : Value) (xs : List Int) (w : World) (ha : RdL w a xs) (hb : RdL w b xs) : Calls Try.prog 41 #[a, b] w fun e w' => e = .returned (.bool true) ∧ Below w.heap.size w w' :=
  (eqL_same a b xs w ha hb).mono fun e w' ⟨h1, d, h2⟩ => ⟨h1, by rw [h2]; exact below_drewN (Below.refl _ _) d⟩
theorem eqbS (a b : Value) (xs : List (Int × Int)) (w : World) (ha : RdS w a xs) (hb : RdS w b xs) : Calls Try.prog 39 #[a, b] w fun e w' => e = .returned (.bool true) ∧ Below w.heap.size w w' := eqS_same a b xs w ha hb
theorem eqbN (a b : Value) (xs : List Nat) (w : World) (ha : RdN w a xs) (hb : RdN w b xs) : Calls Try.prog 40 #[a, b] w fun e w' => e = .returned (.bool true) ∧ Below w.heap.size w w' := eqn_same a b xs w ha hb
theorem eqbB (a b : Value) (xs : List Nat) (w : World) (ha : RdM w a xs) (hb : RdM w b xs) : Calls Try.prog 42 #[a, b] w fun e w' => e = .returned (.bool true) ∧ Below w.heap.size w w' := eqb_same a b xs w ha hb
set_option maxRecDepth 100000 in
set_option maxHeartbeats 8000000 in
theorem eqst_same (d r m c v o i d2 r2 m2 c2 v2 o2 i2 : Value) (S : S8) (w : World) (ha : RdSt w d r m c v o i S) (hb : RdSt w d2 r2 m2 c2 v2 o2 i2 S) :
    Calls Try.prog 12 #[.agg #[d, r, .int .i32 S.a, m, c, v, o, i, .int .i64 S.fault, .int .i64 S.fuel], .agg #[d2, r2, .int .i32 S.a, m2, c2, v2, o2, i2, .int .i64 S.fault, .int .i64 S.fuel]] w fun e w' => e = .returned (.bool true) ∧ Below w.heap.size w w' := by
  obtain ⟨⟨A0, a0, rfl⟩, ⟨A1, a1, rfl⟩, ⟨A2, a2, rfl⟩, ⟨A3, a3, rfl⟩, ⟨A4, a4, rfl⟩, ⟨A5, a5, rfl⟩, ⟨A6, a6, rfl⟩⟩ := ha.form
  obtain ⟨⟨B0, b0, rfl⟩, ⟨B1, b1, rfl⟩, ⟨B2, b2, rfl⟩, ⟨B3, b3, rfl⟩, ⟨B4, b4, rfl⟩, ⟨B5, b5, rfl⟩, ⟨B6, b6, rfl⟩⟩ := hb.form
  have HA := Lib.hid (fun W (h : Below w.heap.size w W) => ha.below h)
  have HB := Lib.hid (fun W (h : Below w.heap.size w W) => hb.below h)
  clear ha hb
  have q_a : (S.a != S.a) = false := by simp
  have q_fault : (S.fault != S.fault) = false := by simp
  have q_fuel : (S.fuel != S.fuel) = false := by simp
  go_enter Try.func12, Try.ntmps12
  go_wp2_with fail
  refine (eqbI _ _ S.data _ (HA.out _ (below_alloc2 w _ _)).d (HB.out _ (below_alloc2 w _ _)).d).mono ?_
  rintro e w1 ⟨rfl, hb1⟩
  obtain ⟨ka1, kb1, hB1, hz1⟩ := boxes2 hb1
  obtain ⟨p1_0, p1_1, p1_2, p1_3, p1_4, p1_5, p1_6, p1_7, p1_8, p1_9⟩ := st_cells ka1
  obtain ⟨r1_0, r1_1, r1_2, r1_3, r1_4, r1_5, r1_6, r1_7, r1_8, r1_9⟩ := st_cells kb1
  have KA1 := Lib.hid ka1
  have KB1 := Lib.hid kb1
  have BE1 : Hid (Below w.heap.size w w1) := Lib.hid hB1
  clear ka1 kb1 hb1 hB1 hz1
  go_wp2_with fail
  refine (eqbS _ _ S.ret _ (HA.out _ BE1.out).r (HB.out _ BE1.out).r).mono ?_
  rintro e w2 ⟨rfl, hb2⟩
  have ka2 := KA1.out.below hb2 KA1.out.lt
  have kb2 := KB1.out.below hb2 KB1.out.lt
  have hB2 := BE1.out.trans (hb2.mono BE1.out.size)
  obtain ⟨p2_0, p2_1, p2_2, p2_3, p2_4, p2_5, p2_6, p2_7, p2_8, p2_9⟩ := st_cells ka2
  obtain ⟨r2_0, r2_1, r2_2, r2_3, r2_4, r2_5, r2_6, r2_7, r2_8, r2_9⟩ := st_cells kb2
  have KA2 := Lib.hid ka2
  have KB2 := Lib.hid kb2
  have BE2 : Hid (Below w.heap.size w w2) := Lib.hid hB2
  clear ka2 kb2 hb2 hB2 KA1 KB1 BE1 p1_0 r1_0 p1_1 r1_1 p1_2 r1_2 p1_3 r1_3 p1_4 r1_4 p1_5 r1_5 p1_6 r1_6 p1_7 r1_7 p1_8 r1_8 p1_9 r1_9
  go_wp2_with fail
  refine (eqbI _ _ S.mem _ (HA.out _ BE2.out).m (HB.out _ BE2.out).m).mono ?_
  rintro e w3 ⟨rfl, hb3⟩
  have ka3 := KA2.out.below hb3 KA2.out.lt
  have kb3 := KB2.out.below hb3 KB2.out.lt
  have hB3 := BE2.out.trans (hb3.mono BE2.out.size)
  obtain ⟨p3_0, p3_1, p3_2, p3_3, p3_4, p3_5, p3_6, p3_7, p3_8, p3_9⟩ := st_cells ka3
  obtain ⟨r3_0, r3_1, r3_2, r3_3, r3_4, r3_5, r3_6, r3_7, r3_8, r3_9⟩ := st_cells kb3
  have KA3 := Lib.hid ka3
  have KB3 := Lib.hid kb3
  have BE3 : Hid (Below w.heap.size w w3) := Lib.hid hB3
  clear ka3 kb3 hb3 hB3 KA2 KB2 BE2 p2_0 r2_0 p2_1 r2_1 p2_2 r2_2 p2_3 r2_3 p2_4 r2_4 p2_5 r2_5 p2_6 r2_6 p2_7 r2_7 p2_8 r2_8 p2_9 r2_9
  go_wp2_with fail
  refine (eqbN _ _ S.cells _ (HA.out _ BE3.out).c (HB.out _ BE3.out).c).mono ?_
  rintro e w4 ⟨rfl, hb4⟩
  have ka4 := KA3.out.below hb4 KA3.out.lt
  have kb4 := KB3.out.below hb4 KB3.out.lt
  have hB4 := BE3.out.trans (hb4.mono BE3.out.size)
  obtain ⟨p4_0, p4_1, p4_2, p4_3, p4_4, p4_5, p4_6, p4_7, p4_8, p4_9⟩ := st_cells ka4
  obtain ⟨r4_0, r4_1, r4_2, r4_3, r4_4, r4_5, r4_6, r4_7, r4_8, r4_9⟩ := st_cells kb4
  have KA4 := Lib.hid ka4
  have KB4 := Lib.hid kb4
  have BE4 : Hid (Below w.heap.size w w4) := Lib.hid hB4
  clear ka4 kb4 hb4 hB4 KA3 KB3 BE3 p3_0 r3_0 p3_1 r3_1 p3_2 r3_2 p3_3 r3_3 p3_4 r3_4 p3_5 r3_5 p3_6 r3_6 p3_7 r3_7 p3_8 r3_8 p3_9 r3_9
  go_wp2_with fail
  refine (eqbL _ _ S.vars _ (HA.out _ BE4.out).v (HB.out _ BE4.out).v).mono ?_
  rintro e w5 ⟨rfl, hb5⟩
  have ka5 := KA4.out.below hb5 KA4.out.lt
  have kb5 := KB4.out.below hb5 KB4.out.lt
  have hB5 := BE4.out.trans (hb5.mono BE4.out.size)
  obtain ⟨p5_0, p5_1, p5_2, p5_3, p5_4, p5_5, p5_6, p5_7, p5_8, p5_9⟩ := st_cells ka5
  obtain ⟨r5_0, r5_1, r5_2, r5_3, r5_4, r5_5, r5_6, r5_7, r5_8, r5_9⟩ := st_cells kb5
  have KA5 := Lib.hid ka5
  have KB5 := Lib.hid kb5
  have BE5 : Hid (Below w.heap.size w w5) := Lib.hid hB5
  clear ka5 kb5 hb5 hB5 KA4 KB4 BE4 p4_0 r4_0 p4_1 r4_1 p4_2 r4_2 p4_3 r4_3 p4_4 r4_4 p4_5 r4_5 p4_6 r4_6 p4_7 r4_7 p4_8 r4_8 p4_9 r4_9
  go_wp2_with fail
  refine (eqbB _ _ S.out _ (HA.out _ BE5.out).o (HB.out _ BE5.out).o).mono ?_
  rintro e w6 ⟨rfl, hb6⟩
  have ka6 := KA5.out.below hb6 KA5.out.lt
  have kb6 := KB5.out.below hb6 KB5.out.lt
  have hB6 := BE5.out.trans (hb6.mono BE5.out.size)
  obtain ⟨p6_0, p6_1, p6_2, p6_3, p6_4, p6_5, p6_6, p6_7, p6_8, p6_9⟩ := st_cells ka6
  obtain ⟨r6_0, r6_1, r6_2, r6_3, r6_4, r6_5, r6_6, r6_7, r6_8, r6_9⟩ := st_cells kb6
  have KA6 := Lib.hid ka6
  have KB6 := Lib.hid kb6
  have BE6 : Hid (Below w.heap.size w w6) := Lib.hid hB6
  clear ka6 kb6 hb6 hB6 KA5 KB5 BE5 p5_0 r5_0 p5_1 r5_1 p5_2 r5_2 p5_3 r5_3 p5_4 r5_4 p5_5 r5_5 p5_6 r5_6 p5_7 r5_7 p5_8 r5_8 p5_9 r5_9
  go_wp2_with fail
  refine (eqbB _ _ S.inp _ (HA.out _ BE6.out).i (HB.out _ BE6.out).i).mono ?_
  rintro e w7 ⟨rfl, hb7⟩
  have ka7 := KA6.out.below hb7 KA6.out.lt
  have kb7 := KB6.out.below hb7 KB6.out.lt
  have hB7 := BE6.out.trans (hb7.mono BE6.out.size)
  obtain ⟨p7_0, p7_1, p7_2, p7_3, p7_4, p7_5, p7_6, p7_7, p7_8, p7_9⟩ := st_cells ka7
  obtain ⟨r7_0, r7_1, r7_2, r7_3, r7_4, r7_5, r7_6, r7_7, r7_8, r7_9⟩ := st_cells kb7
  have KA7 := Lib.hid ka7
  have KB7 := Lib.hid kb7
  have BE7 : Hid (Below w.heap.size w w7) := Lib.hid hB7
  clear ka7 kb7 hb7 hB7 KA6 KB6 BE6 p6_0 r6_0 p6_1 r6_1 p6_2 r6_2 p6_3 r6_3 p6_4 r6_4 p6_5 r6_5 p6_6 r6_6 p6_7 r6_7 p6_8 r6_8 p6_9 r6_9
  go_wp2_with fail
  go_ret
  exact ⟨rfl, BE7.out⟩
end Go.Proofs.Ytmnfdbgiemappaa

namespace Go.Proofs.Ytmnfdbgiemappaa
open Go.RowKit Go

theorem ret_i64 {a b : Int} (h : a = b) : Ending.returned (.int .i64 a) = .returned (.int .i64 b) := by rw [h]
theorem heldN_at (v : Value) (k n : Nat) (h1 : k ≤ 4194304) (hx : n ≤ 4194304) (W : World) (hr : RdN W v (marksN k n)) :
    Calls Try.prog 61 #[v, .int .i64 k] W fun e w' => e = .returned (.int .i64 ((k : Int) + (n : Int))) ∧ W = w' := by
  have h := heldn_any v (marksN k n) k h1 (by rw [marksN_len]; exact hx) W hr
  rw [marksN_len, if_pos (show marksN k n = List.map (fun x => k + x) (List.range n) from rfl)] at h
  exact h
theorem marksB_get (k n i : Nat) (h : i < (marksB k n).length) : ((marksB k n)[i] : Int) = ((k : Int) + (i : Int)) % 256 := by simp [marksB]
set_option maxHeartbeats 1000000 in
theorem heldB_at (v : Value) (k n : Nat) (h1 : k ≤ 4194304) (hx : n ≤ 4194304) (w : World) (ha : RdM w v (marksB k n)) :
    Calls Try.prog 63 #[v, .int .i64 k] w fun e w' => e = .returned (.int .i64 ((k : Int) + (n : Int))) ∧ w = w' := by
  obtain ⟨A, ca, rfl, hla, hca⟩ := ha
  rw [marksB_len]
  have HA : Hid (∀ i, i < n → ∃ a, A = some a ∧ w.cell? (a.add i) = some (.int .u8 (((k : Int) + (i : Int)) % 256))) := Lib.hid fun i hi => by
    obtain ⟨a, h1, -, h3⟩ := hca i (by rw [marksB_len]; exact hi)
    refine ⟨a, h1, ?_⟩
    rw [h3]
    exact congrArg (fun z => some (Value.int .u8 z)) (marksB_get k n i _)
  clear hca hla
  go_enter Try.func63, Try.ntmps63
  go_wp2
  go_loop [1, 5] (fun vk vi => ∃ i : Nat, vi = .int .i64 i ∧ vk = .int .i64 ((k : Int) + (i : Int)) ∧ i ≤ n) (fun _ vi => n - (intOf vi).toNat)
  case atStart => exact ⟨0, rfl, by simp, by omega⟩
  case round =>
    obtain ⟨i, rfl, rfl, hi⟩ := hrel
    by_cases hp : i < n
    · have i2 : (i : Int) < (n : Int) := by omega
      obtain ⟨a, rfl, hc⟩ := HA.out i hp
      go_wp2
      go_round
      case rel => exact ⟨i + 1, by go_num, by go_num, by omega⟩
      case measure => simp [intOf]; omega
    · obtain rfl : i = n := by omega
      go_wp2
      go_ret
      exact ⟨rfl, rfl⟩
theorem mkaI (base : Nat) (v : Value) (xs : List Int) (z : Int) (k : Nat) (hz : z = (k : Int)) (h1 : k ≤ 4194304) (hx : xs.length ≤ 4194304) (W : World) (hown : W.ownsRow base 21 1 v xs.length ((xs).map iv)) :
    Calls Try.prog 43 #[v, .int .i64 z] W fun e w' => e = .returned (.int .i64 (z + (xs.length : Int))) ∧ w'.ownsRow base 21 1 v xs.length ((marksI k xs.length).map iv) ∧ W.grownBy w' v.ownBlock := by
  subst hz
  exact markI_any base v xs k (by omega) hx W hown
theorem hdaI (v : Value) (n : Nat) (z : Int) (k : Nat) (hz : z = (k : Int)) (h1 : k ≤ 4194304) (hx : n ≤ 4194304) (W : World) (hr : RdI W v (marksI k n)) :
    Calls Try.prog 59 #[v, .int .i64 z] W fun e w' => e = .returned (.int .i64 (z + (n : Int))) ∧ Below W.heap.size W w' := by
  subst hz
  exact (heldI_any v k n (by omega) hx W hr).mono fun e w' ⟨h1, h2⟩ => ⟨h1, by rw [← h2]; exact Below.refl _ _⟩
theorem mkaL (base : Nat) (v : Value) (xs : List Int) (z : Int) (k : Nat) (hz : z = (k : Int)) (h1 : k ≤ 4194304) (hx : xs.length ≤ 4194304) (W : World) (hown : W.ownsRow base 3 1 v xs.length ((xs).map lv)) :
    Calls Try.prog 46 #[v, .int .i64 z] W fun e w' => e = .returned (.int .i64 (z + (xs.length : Int))) ∧ w'.ownsRow base 3 1 v xs.length ((marksL k xs.length).map lv) ∧ W.grownBy w' v.ownBlock := by
  subst hz
  exact markL_any base v xs k (by omega) hx W hown
theorem hdaL (v : Value) (n : Nat) (z : Int) (k : Nat) (hz : z = (k : Int)) (h1 : k ≤ 4194304) (hx : n ≤ 4194304) (W : World) (hr : RdL W v (marksL k n)) :
    Calls Try.prog 62 #[v, .int .i64 z] W fun e w' => e = .returned (.int .i64 (z + (n : Int))) ∧ Below W.heap.size W w' := by
  subst hz
  exact (heldL_any v k n (by omega) hx W hr).mono fun e w' ⟨h1, h2⟩ => ⟨h1, by rw [← h2]; exact Below.refl _ _⟩
theorem mkaN (base : Nat) (v : Value) (xs : List Nat) (z : Int) (k : Nat) (hz : z = (k : Int)) (h1 : k ≤ 4194304) (hx : xs.length ≤ 4194304) (W : World) (hown : W.ownsRow base 95 1 v xs.length ((xs).map u32v)) :
    Calls Try.prog 45 #[v, .int .i64 z] W fun e w' => e = .returned (.int .i64 (z + (xs.length : Int))) ∧ w'.ownsRow base 95 1 v xs.length ((marksN k xs.length).map u32v) ∧ W.grownBy w' v.ownBlock := by
  subst hz
  exact markn_any base v xs k (by omega) hx W hown
theorem hdaN (v : Value) (n : Nat) (z : Int) (k : Nat) (hz : z = (k : Int)) (h1 : k ≤ 4194304) (hx : n ≤ 4194304) (W : World) (hr : RdN W v (marksN k n)) :
    Calls Try.prog 61 #[v, .int .i64 z] W fun e w' => e = .returned (.int .i64 (z + (n : Int))) ∧ Below W.heap.size W w' := by
  subst hz
  exact (heldN_at v k n (by omega) hx W hr).mono fun e w' ⟨h1, h2⟩ => ⟨h1, by rw [← h2]; exact Below.refl _ _⟩
theorem mkaB (base : Nat) (v : Value) (xs : List Nat) (z : Int) (k : Nat) (hz : z = (k : Int)) (h1 : k ≤ 4194304) (hx : xs.length ≤ 4194304) (W : World) (hown : W.ownsRow base 5 1 v xs.length ((xs).map b8v)) :
    Calls Try.prog 47 #[v, .int .i64 z] W fun e w' => e = .returned (.int .i64 (z + (xs.length : Int))) ∧ w'.ownsRow base 5 1 v xs.length ((marksB k xs.length).map b8v) ∧ W.grownBy w' v.ownBlock := by
  subst hz
  exact markb_any base v xs k (by omega) hx W hown
theorem hdaB (v : Value) (n : Nat) (z : Int) (k : Nat) (hz : z = (k : Int)) (h1 : k ≤ 4194304) (hx : n ≤ 4194304) (W : World) (hr : RdM W v (marksB k n)) :
    Calls Try.prog 63 #[v, .int .i64 z] W fun e w' => e = .returned (.int .i64 (z + (n : Int))) ∧ Below W.heap.size W w' := by
  subst hz
  exact (heldB_at v k n (by omega) hx W hr).mono fun e w' ⟨h1, h2⟩ => ⟨h1, by rw [← h2]; exact Below.refl _ _⟩
theorem mkaS (base : Nat) (v : Value) (xs : List (Int × Int)) (z : Int) (k : Nat) (hz : z = (k : Int)) (h1 : k ≤ 4194304) (hx : xs.length ≤ 4194304) (W : World) (hown : W.ownsRow base 58 2 v xs.length (slv (xs))) :
    Calls Try.prog 44 #[v, .int .i64 z] W fun e w' => e = .returned (.int .i64 (z + 2 * (xs.length : Int))) ∧ w'.ownsRow base 58 2 v xs.length (slv (marksS k xs.length)) ∧ W.grownBy w' v.ownBlock := by
  subst hz
  exact markS_any base v xs k (by omega) hx W hown
theorem hdaS (v : Value) (n : Nat) (z : Int) (k : Nat) (hz : z = (k : Int)) (h1 : k ≤ 4194304) (hx : n ≤ 4194304) (W : World) (hr : RdS W v (marksS k n)) :
    Calls Try.prog 60 #[v, .int .i64 z] W fun e w' => e = .returned (.int .i64 (z + 2 * (n : Int))) ∧ Below W.heap.size W w' := by
  subst hz
  exact (heldS_any v k n (by omega) hx W hr).mono fun e w' ⟨h1, h2⟩ => ⟨h1, by rw [← h2]; exact Below.refl _ _⟩
theorem hdzI (v : Value) (n : Nat) (z z2 : Int) (k : Nat) (hz : z = (k : Int)) (hz2 : z + (n : Int) = z2) (h1 : k ≤ 4194304) (hx : n ≤ 4194304) (W : World) (hr : RdI W v (marksI k n)) :
    Calls Try.prog 59 #[v, .int .i64 z] W fun e w' => e = .returned (.int .i64 z2) ∧ Below W.heap.size W w' := by
  subst hz2
  exact hdaI v n z k hz h1 hx W hr
theorem hdzL (v : Value) (n : Nat) (z z2 : Int) (k : Nat) (hz : z = (k : Int)) (hz2 : z + (n : Int) = z2) (h1 : k ≤ 4194304) (hx : n ≤ 4194304) (W : World) (hr : RdL W v (marksL k n)) :
    Calls Try.prog 62 #[v, .int .i64 z] W fun e w' => e = .returned (.int .i64 z2) ∧ Below W.heap.size W w' := by
  subst hz2
  exact hdaL v n z k hz h1 hx W hr
theorem hdzN (v : Value) (n : Nat) (z z2 : Int) (k : Nat) (hz : z = (k : Int)) (hz2 : z + (n : Int) = z2) (h1 : k ≤ 4194304) (hx : n ≤ 4194304) (W : World) (hr : RdN W v (marksN k n)) :
    Calls Try.prog 61 #[v, .int .i64 z] W fun e w' => e = .returned (.int .i64 z2) ∧ Below W.heap.size W w' := by
  subst hz2
  exact hdaN v n z k hz h1 hx W hr
theorem hdzB (v : Value) (n : Nat) (z z2 : Int) (k : Nat) (hz : z = (k : Int)) (hz2 : z + (n : Int) = z2) (h1 : k ≤ 4194304) (hx : n ≤ 4194304) (W : World) (hr : RdM W v (marksB k n)) :
    Calls Try.prog 63 #[v, .int .i64 z] W fun e w' => e = .returned (.int .i64 z2) ∧ Below W.heap.size W w' := by
  subst hz2
  exact hdaB v n z k hz h1 hx W hr
theorem hdzS (v : Value) (n : Nat) (z z2 : Int) (k : Nat) (hz : z = (k : Int)) (hz2 : z + 2 * (n : Int) = z2) (h1 : k ≤ 4194304) (hx : n ≤ 4194304) (W : World) (hr : RdS W v (marksS k n)) :
    Calls Try.prog 60 #[v, .int .i64 z] W fun e w' => e = .returned (.int .i64 z2) ∧ Below W.heap.size W w' := by
  subst hz2
  exact hdaS v n z k hz h1 hx W hr
end Go.Proofs.Ytmnfdbgiemappaa

namespace Go.Proofs.Ytmnfdbgiemappaa
open Go.RowKit Go

set_option maxRecDepth 100000 in
set_option maxHeartbeats 8000000 in
theorem markst_any (lo hi : Nat) (d r m c v o i : Value) (S : S8) (k : Nat) (h1 : k + totSt S ≤ 4100000) (hs : totSt S ≤ 4000000) (w : World) (ho : OwnSt w lo hi d r m c v o i S) (_hw : hi ≤ w.heap.size) :
    Calls Try.prog 14 #[.agg #[d, r, .int .i32 S.a, m, c, v, o, i, .int .i64 S.fault, .int .i64 S.fuel], .int .i64 k] w fun e w' => e = .returned (.int .i64 ((k : Int) + (totSt S : Int))) ∧ OwnSt w' lo hi d r m c v o i (markSt S k) ∧ Kept lo hi w w' := by
  have hts := hs
  unfold totSt at hs h1
  obtain ⟨⟨A0, a0, rfl⟩, ⟨A1, a1, rfl⟩, ⟨A2, a2, rfl⟩, ⟨A3, a3, rfl⟩, ⟨A4, a4, rfl⟩, ⟨A5, a5, rfl⟩, ⟨A6, a6, rfl⟩⟩ := ho.form hts
  have TOP := Lib.hid ho.top
  have LO0 := Lib.hid (own_lt ho.d)
  have HI0 : Hid (∀ k, (Value.slice A0 S.data.length a0).ownBlock = some k → k < hi) := Lib.hid (fun k hk => ho.top _ (by simp) k hk)
  have LO1 := Lib.hid (own_lt ho.r)
  have HI1 : Hid (∀ k, (Value.slice A1 S.ret.length a1).ownBlock = some k → k < hi) := Lib.hid (fun k hk => ho.top _ (by simp) k hk)
  have LO2 := Lib.hid (own_lt ho.m)
  have HI2 : Hid (∀ k, (Value.slice A2 S.mem.length a2).ownBlock = some k → k < hi) := Lib.hid (fun k hk => ho.top _ (by simp) k hk)
  have LO3 := Lib.hid (own_lt ho.c)
  have HI3 : Hid (∀ k, (Value.slice A3 S.cells.length a3).ownBlock = some k → k < hi) := Lib.hid (fun k hk => ho.top _ (by simp) k hk)
  have LO4 := Lib.hid (own_lt ho.v)
  have HI4 : Hid (∀ k, (Value.slice A4 S.vars.length a4).ownBlock = some k → k < hi) := Lib.hid (fun k hk => ho.top _ (by simp) k hk)
  have LO5 := Lib.hid (own_lt ho.o)
  have HI5 : Hid (∀ k, (Value.slice A5 S.out.length a5).ownBlock = some k → k < hi) := Lib.hid (fun k hk => ho.top _ (by simp) k hk)
  have LO6 := Lib.hid (tail_lt ho.i)
  have HI6 : Hid (∀ k, (Value.slice A6 S.inp.length a6).ownBlock = some k → k < hi) := Lib.hid (fun k hk => ho.top _ (by simp) k hk)
  have DM := Lib.hid ho.dm
  have OI := Lib.hid ho.oi
  have R0 : Hid (Rows7 (w.alloc (.cells #[.slice A0 S.data.length a0, .slice A1 S.ret.length a1, .int .i32 S.a, .slice A2 S.mem.length a2, .slice A3 S.cells.length a3, .slice A4 S.vars.length a4, .slice A5 S.out.length a5, .slice A6 S.inp.length a6, .int .i64 S.fault, .int .i64 S.fuel] 34)) lo S (.slice A0 S.data.length a0) (.slice A1 S.ret.length a1) (.slice A2 S.mem.length a2) (.slice A3 S.cells.length a3) (.slice A4 S.vars.length a4) (.slice A5 S.out.length a5) (.slice A6 S.inp.length a6) S.data S.ret S.mem S.cells S.vars S.out S.inp) := Lib.hid ⟨ho.d.alloc _, ho.r.alloc _, ho.m.alloc _, ho.c.alloc _, ho.v.alloc _, ho.o.alloc _, ho.i.alloc _⟩
  have KB0 := Lib.hid (Blk.new w 34 #[.slice A0 S.data.length a0, .slice A1 S.ret.length a1, .int .i32 S.a, .slice A2 S.mem.length a2, .slice A3 S.cells.length a3, .slice A4 S.vars.length a4, .slice A5 S.out.length a5, .slice A6 S.inp.length a6, .int .i64 S.fault, .int .i64 S.fuel])
  have KE0 : Hid (Kept lo hi w (w.alloc (.cells #[.slice A0 S.data.length a0, .slice A1 S.ret.length a1, .int .i32 S.a, .slice A2 S.mem.length a2, .slice A3 S.cells.length a3, .slice A4 S.vars.length a4, .slice A5 S.out.length a5, .slice A6 S.inp.length a6, .int .i64 S.fault, .int .i64 S.fuel] 34))) := Lib.hid (Kept.of_below (below_alloc _ _))
  clear ho hts
  go_enter Try.func14, Try.ntmps14
  go_wp2_with fail
  refine (mkaI lo _ S.data _ (k) (by push_cast; omega) (by omega) (by omega) _ R0.out.d).mono ?_
  rintro e w1 ⟨rfl, ho1, hg1⟩
  have R1 : Hid (Rows7 w1 lo S (.slice A0 S.data.length a0) (.slice A1 S.ret.length a1) (.slice A2 S.mem.length a2) (.slice A3 S.cells.length a3) (.slice A4 S.vars.length a4) (.slice A5 S.out.length a5) (.slice A6 S.inp.length a6) (marksI (k) S.data.length) S.ret S.mem S.cells S.vars S.out S.inp) := Lib.hid ⟨ho1, R0.out.r.kept hg1 (rows_ne R0.out.r R0.out.d (by decide)), R0.out.m.kept hg1 (apart_sym DM.out), R0.out.c.kept hg1 (rows_ne R0.out.c R0.out.d (by decide)), R0.out.v.kept hg1 (rows_ne R0.out.v R0.out.d (by decide)), R0.out.o.kept hg1 (rows_ne R0.out.o R0.out.d (by decide)), R0.out.i.kept hg1 (tail_ne R0.out.i R0.out.d (by decide))⟩
  have kb1 := KB0.out.grown hg1 (box_neG KB0.out R0.out.d (by decide))
  have KE1 : Hid (Kept lo hi w w1) := Lib.hid (KE0.out.trans (Kept.of_grown hg1 fun k hk => ⟨LO0.out k hk, HI0.out k hk⟩))
  obtain ⟨p1_0, p1_1, p1_2, p1_3, p1_4, p1_5, p1_6, p1_7, p1_8, p1_9⟩ := st_cells kb1
  have KB1 := Lib.hid kb1
  clear kb1 ho1 hg1 KE0 KB0 R0 
  go_wp2_with fail
  refine (mkaS lo _ S.ret _ (k + S.data.length) (by push_cast; omega) (by omega) (by omega) _ R1.out.r).mono ?_
  rintro e w2 ⟨rfl, ho2, hg2⟩
  have R2 : Hid (Rows7 w2 lo S (.slice A0 S.data.length a0) (.slice A1 S.ret.length a1) (.slice A2 S.mem.length a2) (.slice A3 S.cells.length a3) (.slice A4 S.vars.length a4) (.slice A5 S.out.length a5) (.slice A6 S.inp.length a6) (marksI (k) S.data.length) (marksS (k + S.data.length) S.ret.length) S.mem S.cells S.vars S.out S.inp) := Lib.hid ⟨R1.out.d.kept hg2 (rows_ne R1.out.d R1.out.r (by decide)), ho2, R1.out.m.kept hg2 (rows_ne R1.out.m R1.out.r (by decide)), R1.out.c.kept hg2 (rows_ne R1.out.c R1.out.r (by decide)), R1.out.v.kept hg2 (rows_ne R1.out.v R1.out.r (by decide)), R1.out.o.kept hg2 (rows_ne R1.out.o R1.out.r (by decide)), R1.out.i.kept hg2 (tail_ne R1.out.i R1.out.r (by decide))⟩
  have kb2 := KB1.out.grown hg2 (box_neG KB1.out R1.out.r (by decide))
  have KE2 : Hid (Kept lo hi w w2) := Lib.hid (KE1.out.trans (Kept.of_grown hg2 fun k hk => ⟨LO1.out k hk, HI1.out k hk⟩))
  obtain ⟨p2_0, p2_1, p2_2, p2_3, p2_4, p2_5, p2_6, p2_7, p2_8, p2_9⟩ := st_cells kb2
  have KB2 := Lib.hid kb2
  clear kb2 ho2 hg2 KE1 KB1 R1 p1_0 p1_1 p1_2 p1_3 p1_4 p1_5 p1_6 p1_7 p1_8 p1_9
  go_wp2_with fail
  refine (mkaI lo _ S.mem _ (k + S.data.length + 2 * S.ret.length) (by push_cast; omega) (by omega) (by omega) _ R2.out.m).mono ?_
  rintro e w3 ⟨rfl, ho3, hg3⟩
  have R3 : Hid (Rows7 w3 lo S (.slice A0 S.data.length a0) (.slice A1 S.ret.length a1) (.slice A2 S.mem.length a2) (.slice A3 S.cells.length a3) (.slice A4 S.vars.length a4) (.slice A5 S.out.length a5) (.slice A6 S.inp.length a6) (marksI (k) S.data.length) (marksS (k + S.data.length) S.ret.length) (marksI (k + S.data.length + 2 * S.ret.length) S.mem.length) S.cells S.vars S.out S.inp) := Lib.hid ⟨R2.out.d.kept hg3 (DM.out), R2.out.r.kept hg3 (rows_ne R2.out.r R2.out.m (by decide)), ho3, R2.out.c.kept hg3 (rows_ne R2.out.c R2.out.m (by decide)), R2.out.v.kept hg3 (rows_ne R2.out.v R2.out.m (by decide)), R2.out.o.kept hg3 (rows_ne R2.out.o R2.out.m (by decide)), R2.out.i.kept hg3 (tail_ne R2.out.i R2.out.m (by decide))⟩
  have kb3 := KB2.out.grown hg3 (box_neG KB2.out R2.out.m (by decide))
  have KE3 : Hid (Kept lo hi w w3) := Lib.hid (KE2.out.trans (Kept.of_grown hg3 fun k hk => ⟨LO2.out k hk, HI2.out k hk⟩))
  obtain ⟨p3_0, p3_1, p3_2, p3_3, p3_4, p3_5, p3_6, p3_7, p3_8, p3_9⟩ := st_cells kb3
  have KB3 := Lib.hid kb3
  clear kb3 ho3 hg3 KE2 KB2 R2 p2_0 p2_1 p2_2 p2_3 p2_4 p2_5 p2_6 p2_7 p2_8 p2_9
  go_wp2_with fail
  refine (mkaN lo _ S.cells _ (k + S.data.length + 2 * S.ret.length + S.mem.length) (by push_cast; omega) (by omega) (by omega) _ R3.out.c).mono ?_
  rintro e w4 ⟨rfl, ho4, hg4⟩
  have R4 : Hid (Rows7 w4 lo S (.slice A0 S.data.length a0) (.slice A1 S.ret.length a1) (.slice A2 S.mem.length a2) (.slice A3 S.cells.length a3) (.slice A4 S.vars.length a4) (.slice A5 S.out.length a5) (.slice A6 S.inp.length a6) (marksI (k) S.data.length) (marksS (k + S.data.length) S.ret.length) (marksI (k + S.data.length + 2 * S.ret.length) S.mem.length) (marksN (k + S.data.length + 2 * S.ret.length + S.mem.length) S.cells.length) S.vars S.out S.inp) := Lib.hid ⟨R3.out.d.kept hg4 (rows_ne R3.out.d R3.out.c (by decide)), R3.out.r.kept hg4 (rows_ne R3.out.r R3.out.c (by decide)), R3.out.m.kept hg4 (rows_ne R3.out.m R3.out.c (by decide)), ho4, R3.out.v.kept hg4 (rows_ne R3.out.v R3.out.c (by decide)), R3.out.o.kept hg4 (rows_ne R3.out.o R3.out.c (by decide)), R3.out.i.kept hg4 (tail_ne R3.out.i R3.out.c (by decide))⟩
  have kb4 := KB3.out.grown hg4 (box_neG KB3.out R3.out.c (by decide))
  have KE4 : Hid (Kept lo hi w w4) := Lib.hid (KE3.out.trans (Kept.of_grown hg4 fun k hk => ⟨LO3.out k hk, HI3.out k hk⟩))
  obtain ⟨p4_0, p4_1, p4_2, p4_3, p4_4, p4_5, p4_6, p4_7, p4_8, p4_9⟩ := st_cells kb4
  have KB4 := Lib.hid kb4
  clear kb4 ho4 hg4 KE3 KB3 R3 p3_0 p3_1 p3_2 p3_3 p3_4 p3_5 p3_6 p3_7 p3_8 p3_9
  go_wp2_with fail
  refine (mkaL lo _ S.vars _ (k + S.data.length + 2 * S.ret.length + S.mem.length + S.cells.length) (by push_cast; omega) (by omega) (by omega) _ R4.out.v).mono ?_
  rintro e w5 ⟨rfl, ho5, hg5⟩
  have R5 : Hid (Rows7 w5 lo S (.slice A0 S.data.length a0) (.slice A1 S.ret.length a1) (.slice A2 S.mem.length a2) (.slice A3 S.cells.length a3) (.slice A4 S.vars.length a4) (.slice A5 S.out.length a5) (.slice A6 S.inp.length a6) (marksI (k) S.data.length) (marksS (k + S.data.length) S.ret.length) (marksI (k + S.data.length + 2 * S.ret.length) S.mem.length) (marksN (k + S.data.length + 2 * S.ret.length + S.mem.length) S.cells.length) (marksL (k + S.data.length + 2 * S.ret.length + S.mem.length + S.cells.length) S.vars.length) S.out S.inp) := Lib.hid ⟨R4.out.d.kept hg5 (rows_ne R4.out.d R4.out.v (by decide)), R4.out.r.kept hg5 (rows_ne R4.out.r R4.out.v (by decide)), R4.out.m.kept hg5 (rows_ne R4.out.m R4.out.v (by decide)), R4.out.c.kept hg5 (rows_ne R4.out.c R4.out.v (by decide)), ho5, R4.out.o.kept hg5 (rows_ne R4.out.o R4.out.v (by decide)), R4.out.i.kept hg5 (tail_ne R4.out.i R4.out.v (by decide))⟩
  have kb5 := KB4.out.grown hg5 (box_neG KB4.out R4.out.v (by decide))
  have KE5 : Hid (Kept lo hi w w5) := Lib.hid (KE4.out.trans (Kept.of_grown hg5 fun k hk => ⟨LO4.out k hk, HI4.out k hk⟩))
  obtain ⟨p5_0, p5_1, p5_2, p5_3, p5_4, p5_5, p5_6, p5_7, p5_8, p5_9⟩ := st_cells kb5
  have KB5 := Lib.hid kb5
  clear kb5 ho5 hg5 KE4 KB4 R4 p4_0 p4_1 p4_2 p4_3 p4_4 p4_5 p4_6 p4_7 p4_8 p4_9
  go_wp2_with fail
  refine (mkaB lo _ S.out _ (k + S.data.length + 2 * S.ret.length + S.mem.length + S.cells.length + S.vars.length) (by push_cast; omega) (by omega) (by omega) _ R5.out.o).mono ?_
  rintro e w6 ⟨rfl, ho6, hg6⟩
  have R6 : Hid (Rows7 w6 lo S (.slice A0 S.data.length a0) (.slice A1 S.ret.length a1) (.slice A2 S.mem.length a2) (.slice A3 S.cells.length a3) (.slice A4 S.vars.length a4) (.slice A5 S.out.length a5) (.slice A6 S.inp.length a6) (marksI (k) S.data.length) (marksS (k + S.data.length) S.ret.length) (marksI (k + S.data.length + 2 * S.ret.length) S.mem.length) (marksN (k + S.data.length + 2 * S.ret.length + S.mem.length) S.cells.length) (marksL (k + S.data.length + 2 * S.ret.length + S.mem.length + S.cells.length) S.vars.length) (marksB (k + S.data.length + 2 * S.ret.length + S.mem.length + S.cells.length + S.vars.length) S.out.length) S.inp) := Lib.hid ⟨R5.out.d.kept hg6 (rows_ne R5.out.d R5.out.o (by decide)), R5.out.r.kept hg6 (rows_ne R5.out.r R5.out.o (by decide)), R5.out.m.kept hg6 (rows_ne R5.out.m R5.out.o (by decide)), R5.out.c.kept hg6 (rows_ne R5.out.c R5.out.o (by decide)), R5.out.v.kept hg6 (rows_ne R5.out.v R5.out.o (by decide)), ho6, R5.out.i.kept hg6 (apart_sym OI.out)⟩
  have kb6 := KB5.out.grown hg6 (box_neG KB5.out R5.out.o (by decide))
  have KE6 : Hid (Kept lo hi w w6) := Lib.hid (KE5.out.trans (Kept.of_grown hg6 fun k hk => ⟨LO5.out k hk, HI5.out k hk⟩))
  obtain ⟨p6_0, p6_1, p6_2, p6_3, p6_4, p6_5, p6_6, p6_7, p6_8, p6_9⟩ := st_cells kb6
  have KB6 := Lib.hid kb6
  clear kb6 ho6 hg6 KE5 KB5 R5 p5_0 p5_1 p5_2 p5_3 p5_4 p5_5 p5_6 p5_7 p5_8 p5_9
  go_wp2_with fail
  refine (mktB lo _ S.inp _ (k + S.data.length + 2 * S.ret.length + S.mem.length + S.cells.length + S.vars.length + S.out.length) (by push_cast; omega) (by omega) (by omega) _ R6.out.i).mono ?_
  rintro e w7 ⟨rfl, ho7, hg7⟩
  have R7 : Hid (Rows7 w7 lo S (.slice A0 S.data.length a0) (.slice A1 S.ret.length a1) (.slice A2 S.mem.length a2) (.slice A3 S.cells.length a3) (.slice A4 S.vars.length a4) (.slice A5 S.out.length a5) (.slice A6 S.inp.length a6) (marksI (k) S.data.length) (marksS (k + S.data.length) S.ret.length) (marksI (k + S.data.length + 2 * S.ret.length) S.mem.length) (marksN (k + S.data.length + 2 * S.ret.length + S.mem.length) S.cells.length) (marksL (k + S.data.length + 2 * S.ret.length + S.mem.length + S.cells.length) S.vars.length) (marksB (k + S.data.length + 2 * S.ret.length + S.mem.length + S.cells.length + S.vars.length) S.out.length) (marksB (k + S.data.length + 2 * S.ret.length + S.mem.length + S.cells.length + S.vars.length + S.out.length) S.inp.length)) := Lib.hid ⟨R6.out.d.kept hg7 (ne_tail R6.out.d R6.out.i (by decide)), R6.out.r.kept hg7 (ne_tail R6.out.r R6.out.i (by decide)), R6.out.m.kept hg7 (ne_tail R6.out.m R6.out.i (by decide)), R6.out.c.kept hg7 (ne_tail R6.out.c R6.out.i (by decide)), R6.out.v.kept hg7 (ne_tail R6.out.v R6.out.i (by decide)), R6.out.o.kept hg7 (OI.out), ho7⟩
  have kb7 := KB6.out.grown hg7 (box_neT KB6.out R6.out.i (by decide))
  have KE7 : Hid (Kept lo hi w w7) := Lib.hid (KE6.out.trans (Kept.of_grown hg7 fun k hk => ⟨LO6.out k hk, HI6.out k hk⟩))
  obtain ⟨p7_0, p7_1, p7_2, p7_3, p7_4, p7_5, p7_6, p7_7, p7_8, p7_9⟩ := st_cells kb7
  have KB7 := Lib.hid kb7
  clear kb7 ho7 hg7 KE6 KB6 R6 p6_0 p6_1 p6_2 p6_3 p6_4 p6_5 p6_6 p6_7 p6_8 p6_9
  go_wp2_with fail
  go_ret
  refine ⟨ret_i64 (by unfold totSt; push_cast; omega), ?_, KE7.out⟩
  exact Rows7.st R7.out TOP.out DM.out OI.out
theorem markst1 (lo hi : Nat) (d r m c v o i : Value) (S : S8) (hs : totSt S ≤ 4000000) (w : World) (ho : OwnSt w lo hi d r m c v o i S) (hw : hi ≤ w.heap.size) :
    Calls Try.prog 14 #[.agg #[d, r, .int .i32 S.a, m, c, v, o, i, .int .i64 S.fault, .int .i64 S.fuel], .int .i64 1] w fun e w' => e = .returned (.int .i64 (1 + (totSt S : Int))) ∧ OwnSt w' lo hi d r m c v o i (markSt S 1) ∧ Kept lo hi w w' := markst_any lo hi d r m c v o i S 1 (by omega) hs w ho hw
end Go.Proofs.Ytmnfdbgiemappaa
