/-
  Lists of definitions (a name and a list of ops each).
-/
import Derived.Test.YthihfgjolioabaaDoorOpW
import Derived.Test.YthihfgjolioabaaDoorOpenOps
import Derived.Deep.Slices
namespace Go.Proofs.YthihfgjolioabaaDoor
open Go.RowKit Go

def dfv : List (ByteArray × Value) → List Value
  | [] => []
  | s :: r => .string s.1 :: s.2 :: dfv r
theorem dfv_len (xs : List (ByteArray × Value)) : (dfv xs).length = xs.length * 2 := by
  induction xs with
  | nil => rfl
  | cons s r ih => simp only [dfv, List.length_cons, ih]; omega
theorem dfv_app (xs ys : List (ByteArray × Value)) : dfv (xs ++ ys) = dfv xs ++ dfv ys := by
  induction xs with
  | nil => rfl
  | cons s r ih => simp only [dfv, List.cons_append, ih]
theorem dfv_get0 {xs : List (ByteArray × Value)} {i : Nat} (h : i < xs.length) : (dfv xs)[i * 2]? = some (.string xs[i].1) := by
  induction xs generalizing i with
  | nil => simp at h
  | cons s r ih =>
    cases i with
    | zero => simp [dfv]
    | succ i =>
      have := ih (i := i) (by simpa using h)
      rw [show (i + 1) * 2 = i * 2 + 2 by omega]
      simpa [dfv] using this
theorem dfv_get1 {xs : List (ByteArray × Value)} {i : Nat} (h : i < xs.length) : (dfv xs)[i * 2 + 1]? = some xs[i].2 := by
  induction xs generalizing i with
  | nil => simp at h
  | cons s r ih =>
    cases i with
    | zero => simp [dfv]
    | succ i =>
      have := ih (i := i) (by simpa using h)
      rw [show (i + 1) * 2 + 1 = i * 2 + 1 + 2 by omega]
      simpa [dfv] using this
theorem dfv_set0 {xs : List (ByteArray × Value)} {i : Nat} (h : i < xs.length) (m : ByteArray) : (dfv xs).set (i * 2) (.string m) = dfv (xs.set i (m, xs[i].2)) := by
  induction xs generalizing i with
  | nil => simp at h
  | cons s r ih =>
    cases i with
    | zero => simp [dfv]
    | succ i =>
      have := ih (i := i) (by simpa using h)
      rw [show (i + 1) * 2 = i * 2 + 2 by omega]
      simpa [dfv] using this
theorem dfv_set1 {xs : List (ByteArray × Value)} {i : Nat} (h : i < xs.length) (m : Value) : (dfv xs).set (i * 2 + 1) m = dfv (xs.set i (xs[i].1, m)) := by
  induction xs generalizing i with
  | nil => simp at h
  | cons s r ih =>
    cases i with
    | zero => simp [dfv]
    | succ i =>
      have := ih (i := i) (by simpa using h)
      rw [show (i + 1) * 2 + 1 = i * 2 + 1 + 2 by omega]
      simpa [dfv] using this
theorem dfv_set {xs : List (ByteArray × Value)} {i : Nat} (h : i < xs.length) (s : ByteArray × Value) : ((dfv xs).set (i * 2) (.string s.1)).set (i * 2 + 1) s.2 = dfv (xs.set i s) := by
  rw [dfv_set0 h, dfv_set1 (by simpa using h)]
  simp
/-- A definition: its name and its ops. -/
abbrev Df := ByteArray × List (Int × Int)
/-- A list of definitions that can be read. -/
def RdD (w : World) (v : Value) (ds : List Df) : Prop :=
  ∃ (A : Option Addr) (cap : Nat), v = .slice A ds.length cap ∧ ∀ i (h : i < ds.length), ∃ a vb, A = some a ∧ a.block < w.heap.size ∧ w.cell? (a.add (i * 2)) = some (.string ds[i].1) ∧ w.cell? ((a.add (i * 2)).add 1) = some vb ∧ RdS w vb ds[i].2
theorem RdD.below {w w' : World} {v : Value} {ds : List Df} (h : RdD w v ds) (hb : Below w.heap.size w w') : RdD w' v ds := by
  obtain ⟨A, cap, rfl, hc⟩ := h
  refine ⟨A, cap, rfl, fun i hi => ?_⟩
  obtain ⟨a, vb, rfl, e2, e3, e4, e5⟩ := hc i hi
  exact ⟨a, vb, rfl, by have := hb.size; omega, (hb.cell (by rw [addr_addb]; exact e2)).trans e3, (hb.cell (by rw [addr_addb, addr_addb]; exact e2)).trans e4, e5.below hb⟩
theorem RdD.form {w : World} {v : Value} {ds : List Df} (h : RdD w v ds) : ∃ A cap, v = .slice A ds.length cap := by
  obtain ⟨A, cap, e, -⟩ := h
  exact ⟨A, cap, e⟩
/-- The cells of one definition of a list, as the walk spells them. -/
theorem RdD.item {w : World} {A : Option Addr} {n cap : Nat} {ds : List Df} (h : RdD w (.slice A n cap) ds) {i : Nat} (hi : i < ds.length) : ∃ a B m bc, A = some a ∧ a.block < w.heap.size ∧ w.cell? (a.add (i * 2)) = some (.string ds[i].1) ∧ w.cell? ⟨(a.add (i * 2)).block, (a.add (i * 2)).off + 1, none⟩ = some (.slice B m bc) ∧ RdS w (.slice B m bc) ds[i].2 ∧ m = ds[i].2.length := by
  obtain ⟨A3, c4, hv4, hc4⟩ := h
  injection hv4 with e1 e2 e3
  subst e1 e3
  obtain ⟨a, vb, rfl, hb, q0, q1, q2⟩ := hc4 i hi
  obtain ⟨B, bc, rfl⟩ := q2.form
  exact ⟨a, B, _, bc, rfl, hb, q0, q1, q2, rfl⟩
/-- Definitions whose parts aren't too long. -/
def SmD (ds : List Df) : Prop := ds.length ≤ 1048576 ∧ ∀ d ∈ ds, d.1.size ≤ 1048576 ∧ d.2.length ≤ 1048576 ∧ ∀ o ∈ d.2, -2147483648 ≤ o.2 ∧ o.2 ≤ 2147483647
/-- A new list of definitions. -/
def NewD (w : World) (ds : List Df) (e : Ending) (w' : World) : Prop := ∃ v, e = .returned v ∧ RdD w' v ds ∧ Below w.heap.size w w'
/-- A list of definitions that comes in. -/
def DefsIn (W : World) (A : Option Addr) (len : Nat) : Prop :=
  len ≤ 9223372036854775807 ∧ ∃ (f : Nat → ByteArray × Option Addr × Nat × Nat), ∀ i, i < len → ∃ a, A = some a ∧ a.block < W.heap.size ∧ W.cell? (a.add (i * 2)) = some (.string (f i).1) ∧ W.cell? ((a.add (i * 2)).add 1) = some (.slice (f i).2.1 (f i).2.2.1 (f i).2.2.2) ∧ (f i).1.size ≤ 9223372036854775807 ∧ OpsIn W (f i).2.1 (f i).2.2.1 (f i).2.2.2
theorem rdd_of {W : World} {A : Option Addr} {len c : Nat} (hlen : len ≤ 1048576) (f : Nat → ByteArray × Option Addr × Nat × Nat) (hf : ∀ i, i < len → ∃ a, A = some a ∧ a.block < W.heap.size ∧ W.cell? (a.add (i * 2)) = some (.string (f i).1) ∧ W.cell? ((a.add (i * 2)).add 1) = some (.slice (f i).2.1 (f i).2.2.1 (f i).2.2.2) ∧ (f i).1.size ≤ 9223372036854775807 ∧ OpsIn W (f i).2.1 (f i).2.2.1 (f i).2.2.2)
    (hs : ∀ i, i < len → (f i).1.size ≤ 1048576 ∧ (f i).2.2.1 ≤ 1048576) : ∃ ds : List Df, ds.length = len ∧ SmD ds ∧ RdD W (.slice A len c) ds := by
  have key : ∀ i, i < len → ∃ xs : List (Int × Int), xs.length = (f i).2.2.1 ∧ (∀ o ∈ xs, -2147483648 ≤ o.2 ∧ o.2 ≤ 2147483647) ∧ RdS W (.slice (f i).2.1 (f i).2.2.1 (f i).2.2.2) xs := fun i hi => by
    obtain ⟨a, -, -, -, -, -, -, ho⟩ := hf i hi
    obtain ⟨xs, h1, h2, h3⟩ := ho (by have := (hs i hi).2; omega)
    exact ⟨xs, h1, fun o ho => (h2 o ho).2, h3⟩
  obtain ⟨g, hg⟩ := Go.Deep.choose_lt key
  refine ⟨(List.range len).map fun i => ((f i).1, g i), by simp, ⟨by simp; omega, fun d hd => ?_⟩, A, c, by simp, fun i hi => ?_⟩
  · obtain ⟨i, hi, rfl⟩ := List.mem_map.1 hd
    have hi := List.mem_range.1 hi
    exact ⟨(hs i hi).1, by rw [(hg i hi).1]; exact (hs i hi).2, (hg i hi).2.1⟩
  · have hil : i < len := by simpa using hi
    obtain ⟨a, e1, e2, e3, e4, -⟩ := hf i hil
    exact ⟨a, _, e1, e2, by simpa using e3, e4, by simpa using (hg i hil).2.2⟩
end Go.Proofs.YthihfgjolioabaaDoor
