/-
  A list of trees that comes in, opened; how large it is.
-/
import Derived.Test.YtlkkobffgbjkpaaTreeW
import Derived.Test.YtlkkobffgbjkpaaFlatI
import Derived.Test.YtlkkobffgbjkpaaOpenOps
import Derived.Deep.Slices
import Derived.ChangeArms
namespace Go.Proofs.Ytlkkobffgbjkpaa
open Go.ChangeShapes Go.WideShapes Go.ChangeAt Go.RowKit Go

mutual
/-- A tree whose lists aren't longer than a list may be. -/
def Tr.ln : Tr → Prop | .mk _ _ c => c.length ≤ 9223372036854775807 ∧ lnL c
def lnL : List Tr → Prop | [] => True | t :: r => t.ln ∧ lnL r
end
theorem lnL_get : ∀ {xs : List Tr}, lnL xs → ∀ {i : Nat} (h : i < xs.length), xs[i].ln := by
  intro xs
  induction xs with
  | nil => intro _ i h; simp at h
  | cons t r ih =>
    intro hr i h
    cases i with
    | zero => exact hr.1
    | succ i => exact ih hr.2 (by simpa using h)
theorem lnL_of : ∀ {xs : List Tr}, (∀ t ∈ xs, t.ln) → lnL xs := by
  intro xs
  induction xs with
  | nil => intro _; trivial
  | cons t r ih => intro h; exact ⟨h t (List.mem_cons_self ..), ih (fun u hu => h u (List.mem_cons_of_mem _ hu))⟩
theorem rgL_of : ∀ {xs : List Tr}, (∀ t ∈ xs, t.rg) → rgL xs := by
  intro xs
  induction xs with
  | nil => intro _; trivial
  | cons t r ih => intro h; exact ⟨h t (List.mem_cons_self ..), ih (fun u hu => h u (List.mem_cons_of_mem _ hu))⟩
/-- A list of trees that comes in. -/
def TreesIn (W : World) (v : Value) : Prop := ∃ ts, RdT W v ts ∧ ts.length ≤ 9223372036854775807 ∧ rgL ts ∧ lnL ts
set_option maxRecDepth 100000 in
theorem trees_cell {H : Type} {enc : TypeId × Value → H} {W : World} : ∀ (fuel : Nat) {c0 : Value} {x : DataW H × List MemPlace}, DataW.trod enc Try.prog W 0 (fun _ => true) true fuel 46 [c0] = some x → TreesIn W c0 := by
  have kz : Try.prog.cellsOf 101 = 3 := by kernel_rfl
  have k1 : Try.prog.cellsOf 3 = 1 := by kernel_rfl
  have k2 : Try.prog.cellsOf 21 = 1 := by kernel_rfl
  have k3 : Try.prog.cellsOf 46 = 1 := by kernel_rfl
  intro fuel
  induction fuel using Nat.strongRecOn with
  | _ fuel ih =>
    intro c0 x hf
    rcases DataW.trod_slice Try.underlying46 hf with ⟨hcs, -⟩ | ⟨a, len, cap, elems, rest, n, hfn, hcs, -, hb, hl, hm, hlen, hel, -⟩
    · obtain rfl : c0 = .slice none 0 0 := by simpa using hcs
      exact ⟨[], RdT.nil W none 0, by simp, trivial, trivial⟩
    · obtain rfl : c0 = .slice (some a) len cap := by simpa using hcs
      unfold maxLen at hm
      have key : ∀ i, i < len → ∃ y : (Int × Int) × Value × List Tr, ((-2147483648 ≤ y.1.2 ∧ y.1.2 ≤ 2147483647)) ∧ W.cell? (a.add (i * 3)) = some (.int .i64 y.1.1) ∧ W.cell? ((a.add (i * 3)).add 1) = some (.int .i32 y.1.2) ∧ W.cell? ((a.add (i * 3)).add 2) = some y.2.1 ∧ RdT W y.2.1 y.2.2 ∧ y.2.2.length ≤ 9223372036854775807 ∧ rgL y.2.2 ∧ lnL y.2.2 := by
        intro i hil
        have hei := hel i hil
        rw [List.getElem?_eq_getElem (by omega)] at hei
        cases hcc : W.cells? 0 (a.add (i * Try.prog.cellsOf 101)) (Try.prog.cellsOf 101) with
        | none => rw [hcc] at hei; cases hei
        | some cs' =>
          rw [hcc] at hei
          have htr : DataW.trod enc Try.prog W 0 (fun _ => true) true n 101 cs' = some (elems[i]'(by omega)) := hei
          rw [kz] at hcc
          obtain ⟨_, hcl, hat⟩ := World.cells?_some hcc
          obtain ⟨ys, n', hn', _, _, hyl, hff⟩ := DataW.trod_struct Try.underlying101 htr
          obtain ⟨y0, y1, y2, rfl⟩ : ∃ y0 y1 y2, cs' = [y0, y1, y2] := by
            match cs', hcl with
            | [a, b, c], _ => exact ⟨a, b, c, rfl⟩
          have l2 : ys.length = 3 := hyl
          have f0 : DataW.trod enc Try.prog W 0 (fun _ => true) true n' 3 (([y0, y1, y2].drop 0).take (Try.prog.cellsOf 3)) = some (ys[0]'(by omega)) := (hff 0 _ rfl).trans (List.getElem?_eq_getElem (show 0 < ys.length by omega))
          have f1 : DataW.trod enc Try.prog W 0 (fun _ => true) true n' 21 (([y0, y1, y2].drop 1).take (Try.prog.cellsOf 21)) = some (ys[1]'(by omega)) := (hff 1 _ rfl).trans (List.getElem?_eq_getElem (show 1 < ys.length by omega))
          have f2 : DataW.trod enc Try.prog W 0 (fun _ => true) true n' 46 (([y0, y1, y2].drop 2).take (Try.prog.cellsOf 46)) = some (ys[2]'(by omega)) := (hff 2 _ rfl).trans (List.getElem?_eq_getElem (show 2 < ys.length by omega))
          rw [k1] at f0
          rw [k2] at f1
          rw [k3] at f2
          obtain ⟨u, hu, -, wu⟩ := DataW.trod_int Try.underlying3 f0
          obtain ⟨z, hz, -, wz⟩ := DataW.trod_int Try.underlying21 f1
          have hu' : y0 = .int .i64 u := by simpa using hu
          have hz' : y1 = .int .i32 z := by simpa using hz
          obtain ⟨kids, g1, g2, g3, g4⟩ := ih n' (by omega) (show DataW.trod enc Try.prog W 0 (fun _ => true) true n' 46 [y2] = some (ys[2]'(by omega)) from f2)
          refine ⟨((u, z), y2, kids), wf32o z wz, ?_, ?_, ?_, g1, g2, g3, g4⟩
          · have := hat 0 (by omega)
            rw [show (a.add (i * 3)).add 0 = a.add (i * 3) by simp [Addr.add]] at this
            rw [this, hu']
            rfl
          · rw [hat 1 (by omega), hz']
            rfl
          · rw [hat 2 (by omega)]
            rfl
      obtain ⟨f, hfx⟩ := Go.Deep.choose_lt key
      have hmem : ∀ t ∈ (List.range len).map (fun i => Tr.mk (f i).1.1 (f i).1.2 (f i).2.2), ∃ i, i < len ∧ t = Tr.mk (f i).1.1 (f i).1.2 (f i).2.2 := fun t ht => by
        obtain ⟨i, hi, rfl⟩ := List.mem_map.1 ht
        exact ⟨i, List.mem_range.1 hi, rfl⟩
      refine ⟨(List.range len).map (fun i => .mk (f i).1.1 (f i).1.2 (f i).2.2), ?_, by simp; omega, rgL_of (fun t ht => ?_), lnL_of (fun t ht => ?_)⟩
      · have e : (Value.slice (some a) len cap) = .slice (some a) ((List.range len).map (fun i => Tr.mk (f i).1.1 (f i).1.2 (f i).2.2)).length cap := by simp
        rw [e]
        refine .mk (some a) cap _ (fun i => (f i).2.1) (fun i hi => ?_) (fun i hi => ?_)
        · have hil : i < len := by simpa using hi
          obtain ⟨q0, q1, q2, q3, q4⟩ := hfx i hil
          have h1 := lt_of_cell_p q1
          rw [addr_addb] at h1
          exact ⟨a, rfl, h1, by simpa [Tr.k] using q1, by simpa [Tr.n] using q2, q3⟩
        · have hil : i < len := by simpa using hi
          obtain ⟨q0, q1, q2, q3, q4, -⟩ := hfx i hil
          simpa [Tr.kids] using q4
      · obtain ⟨i, hi, rfl⟩ := hmem t ht
        obtain ⟨q0, q1, q2, q3, q4, q5, q6, q7⟩ := hfx i hi
        exact ⟨q0, q6⟩
      · obtain ⟨i, hi, rfl⟩ := hmem t ht
        obtain ⟨q0, q1, q2, q3, q4, q5, q6, q7⟩ := hfx i hi
        exact ⟨q5, q7⟩
theorem trees_in {H : Type} {enc : TypeId × Value → H} {W : World} {A : Option Addr} {len cap : Nat} {d : DataW H} {p : List MemPlace}
    (h : DataW.Trod enc Try.prog W 0 (fun _ => true) true 46 (.slice A len cap) d p) : TreesIn W (.slice A len cap) := by
  obtain ⟨fuel, hf⟩ := h
  exact trees_cell fuel (show DataW.trod enc Try.prog W 0 (fun _ => true) true fuel 46 [.slice A len cap] = some (d, p) from hf)
set_option maxHeartbeats 2000000 in
theorem sz_tree (kids : List Tr) (Z : Nat) (ih : ∀ (left : Int), 0 ≤ left → left ≤ 1048576 → ∀ a W, RdT W a kids → Calls Try.prog 31 #[a, .int .i64 left] W fun e w' => (∃ z, e = .returned (.int .i64 z) ∧ (z = -1 ∨ (0 ≤ z ∧ z = left - (Z : Int)))) ∧ Below W.heap.size W w')
    (k n : Int) (B : Option Addr) (m c : Nat) (left : Int) (h0 : 0 ≤ left) (h1 : left ≤ 1048576) (w : World) (hr : RdT w (.slice B m c) kids) :
    Calls Try.prog 61 #[.agg #[.int .i64 k, .int .i32 n, .slice B m c], .int .i64 left] w fun e w' => (∃ z, e = .returned (.int .i64 z) ∧ (z = -1 ∨ (0 ≤ z ∧ z = left - (Z : Int)))) ∧ Below w.heap.size w w' := by
  have HBX := Lib.hid (below_alloc1 w (.cells #[.int .i64 k, .int .i32 n, .slice B m c] 101))
  have HC := Lib.hid (ih left h0 h1 (.slice B m c) _ (hr.stay HBX.out))
  clear hr ih
  go_enter Try.func61, Try.ntmps61
  go_wp2_with fail
  refine HC.out.mono ?_
  rintro e w2 ⟨⟨z, rfl, rfl | ⟨g1, g2⟩⟩, hb2⟩
  · have HB2 := Lib.hid (HBX.out.trans (hb2.mono HBX.out.size))
    clear hb2 HC
    go_wp2_with fail
    go_ret
    exact ⟨⟨_, rfl, .inl rfl⟩, HB2.out⟩
  · have HB2 := Lib.hid (HBX.out.trans (hb2.mono HBX.out.size))
    have hz2 : ¬ z < 0 := by omega
    have HE := Lib.hid g2
    clear hb2 HC g2
    go_wp2_with fail
    go_ret
    exact ⟨⟨_, rfl, .inr ⟨g1, HE.out⟩⟩, HB2.out⟩
set_option maxHeartbeats 4000000 in
theorem szT_all : ∀ (M : Nat) (ts : List Tr), sizeL ts < M → ts.length ≤ 9223372036854775807 → lnL ts → ∀ (left : Int), 0 ≤ left → left ≤ 1048576 → ∀ (v : Value) (w : World), RdT w v ts →
    Calls Try.prog 31 #[v, .int .i64 left] w fun e w' => (∃ z, e = .returned (.int .i64 z) ∧ (z = -1 ∨ (0 ≤ z ∧ z = left - (sizeL ts : Int)))) ∧ Below w.heap.size w w' := by
  intro M
  induction M with
  | zero => intro ts h; omega
  | succ M ih =>
    intro ts hM hx hln left h0 h1 v w hr
    obtain ⟨A, cap, rfl⟩ := hr.form
    by_cases hl : (ts.length : Int) ≤ left
    · have HR := Lib.hid (fun W (h : Below w.heap.size w W) => hr.stay h)
      have HIH := Lib.hid (fun i (hi : i < ts.length) => ih ts[i].kids (by have := sizeL_get hi; omega) (by have := lnL_get hln hi; revert this; cases ts[i]; exact fun h => h.1) (by have := lnL_get hln hi; revert this; cases ts[i]; exact fun h => h.2))
      have HTK := Lib.hid (fun i (hi : i < ts.length) => sizeL_take_succ hi)
      have HTL : Hid (ts.take ts.length = ts) := Lib.hid List.take_length
      obtain ⟨Z, hZ⟩ : ∃ Z, sizeL ts = Z := ⟨_, rfl⟩
      have HZ := Lib.hid hZ
      rw [hZ]
      obtain ⟨N, hN⟩ : ∃ N, ts.length = N := ⟨_, rfl⟩
      have HN := Lib.hid hN
      rw [hN] at hl hx HR HTL ⊢
      have hz : ¬ (left - (N : Int)) < 0 := by omega
      clear hr ih hM hln hZ hN
      go_enter Try.func31, Try.ntmps31
      go_wp2_with fail
      go_loopw [1, 5] (fun vl vi wr => ∃ (i : Nat) (l2 : Int), vi = .int .i64 i ∧ vl = .int .i64 l2 ∧ i ≤ N ∧ 0 ≤ l2 ∧ l2 ≤ 1048576 ∧ Hid (l2 + (sizeL (ts.take i) : Int) = left - (N : Int) + (i : Int)) ∧ Hid (Below w.heap.size w wr)) (fun _ vi _ => N - (intOf vi).toNat)
      case atStart => exact ⟨0, _, rfl, rfl, by omega, by omega, by omega, Lib.hid (by simp [sizeL]), Lib.hid (Below.refl _ _)⟩
      case round =>
        obtain ⟨i, l2, rfl, rfl, hi, hl0, hl1, HS, HB⟩ := hrel
        by_cases hp : i < N
        · have hp' : i < ts.length := by rw [HN.out]; exact hp
          obtain ⟨a, B, m, bc, rfl, la, p0, p1, p2, r1, e1⟩ := (HR.out wr HB.out).item hp'
          have hic := HIH.out i hp'
          have htk := HTK.out i hp'
          obtain ⟨x, hx'⟩ : ∃ x, ts[i] = x := ⟨_, rfl⟩
          obtain ⟨k, n, kids⟩ := x
          rw [hx'] at p0 p1 r1 e1 hic htk
          simp only [Tr.k, Tr.n, Tr.kids] at p0 p1 r1 e1 hic htk
          have HTKI := Lib.hid htk
          have HC := Lib.hid (sz_tree kids (sizeL kids) hic k n B m bc l2 hl0 hl1 wr r1)
          have i1 : (0 : Int) ≤ (i : Int) := by omega
          have i2 : (i : Int) < (N : Int) := by omega
          clear hx' hic htk r1 e1 la hp'
          go_wp2_with fail
          refine HC.out.mono ?_
          rintro e w2 ⟨⟨z, rfl, rfl | ⟨g1, g2⟩⟩, hb2⟩
          · have HB2 := Lib.hid (HB.out.trans (hb2.mono HB.out.size))
            clear hb2 HB HC
            go_wp2_with fail
            go_ret
            exact ⟨⟨_, rfl, .inl rfl⟩, HB2.out⟩
          · have HB2 := Lib.hid (HB.out.trans (hb2.mono HB.out.size))
            have hz3 : ¬ z < 0 := by omega
            have HS2 : Hid (z + (sizeL (ts.take (i + 1)) : Int) = left - (N : Int) + ((i + 1 : Nat) : Int)) := Lib.hid (by
              have h1 := HS.out
              rw [HTKI.out]
              omega)
            have hz4 : z ≤ 1048576 := by omega
            clear hb2 HB HC HS g2 HTKI
            go_wp2_with fail
            go_roundw
            case rel => exact ⟨i + 1, z, by go_num, rfl, by omega, g1, hz4, HS2, HB2⟩
            case measure => simp [intOf]; omega
        · obtain rfl : i = N := by omega
          have HE : Hid (l2 = left - (Z : Int)) := Lib.hid (by have := HS.out; rw [HTL.out, HZ.out] at this; omega)
          have hp2 : ¬ (i : Int) < (i : Int) := by omega
          clear HS hi
          go_wp2_with fail
          go_ret
          exact ⟨⟨_, rfl, .inr ⟨hl0, HE.out⟩⟩, HB.out⟩
    · have hz : (left - (ts.length : Int)) < 0 := by omega
      obtain ⟨N, hN⟩ : ∃ N, ts.length = N := ⟨_, rfl⟩
      rw [hN] at hl hx hz ⊢
      have hz3 : left < (N : Int) := by omega
      have hz2 : (N : Int) ≤ 9223372036854775807 := by omega
      clear hr ih hM hln hN
      go_enter Try.func31, Try.ntmps31
      go_wp2_with fail
      go_ret
      exact ⟨⟨_, rfl, .inl rfl⟩, by go_grown⟩
end Go.Proofs.Ytlkkobffgbjkpaa
