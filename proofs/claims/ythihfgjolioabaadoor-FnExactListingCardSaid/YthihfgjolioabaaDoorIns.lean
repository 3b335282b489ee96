/-
  Lists of steps (a kind and a number each): a copy of one, whether two are alike, the marks that are laid into one, whether they lie there.
-/
import Derived.Test.YthihfgjolioabaaDoorI64
import Derived.Test.YthihfgjolioabaaDoorExKit
namespace Go.Proofs.YthihfgjolioabaaDoor
open Go.RowKit Go

abbrev cdV (s : Int × Int) : Value := .agg #[.int .i64 s.1, .int .i64 s.2]
def cdv : List (Int × Int) → List Value
  | [] => []
  | s :: r => .int .i64 s.1 :: .int .i64 s.2 :: cdv r
theorem cdv_len (xs : List (Int × Int)) : (cdv xs).length = xs.length * 2 := by
  induction xs with
  | nil => rfl
  | cons s r ih => simp only [cdv, List.length_cons, ih]; omega
theorem cdv_app (xs ys : List (Int × Int)) : cdv (xs ++ ys) = cdv xs ++ cdv ys := by
  induction xs with
  | nil => rfl
  | cons s r ih => simp only [cdv, List.cons_append, ih]
theorem cdv_get0 {xs : List (Int × Int)} {i : Nat} (h : i < xs.length) : (cdv xs)[i * 2]? = some (.int .i64 xs[i].1) := by
  induction xs generalizing i with
  | nil => simp at h
  | cons s r ih =>
    cases i with
    | zero => simp [cdv]
    | succ i =>
      have := ih (i := i) (by simpa using h)
      rw [show (i + 1) * 2 = i * 2 + 2 by omega]
      simpa [cdv] using this
theorem cdv_get1 {xs : List (Int × Int)} {i : Nat} (h : i < xs.length) : (cdv xs)[i * 2 + 1]? = some (.int .i64 xs[i].2) := by
  induction xs generalizing i with
  | nil => simp at h
  | cons s r ih =>
    cases i with
    | zero => simp [cdv]
    | succ i =>
      have := ih (i := i) (by simpa using h)
      rw [show (i + 1) * 2 + 1 = i * 2 + 1 + 2 by omega]
      simpa [cdv] using this
theorem cdv_set0 {xs : List (Int × Int)} {i : Nat} (h : i < xs.length) (m : Int) : (cdv xs).set (i * 2) (.int .i64 m) = cdv (xs.set i (m, xs[i].2)) := by
  induction xs generalizing i with
  | nil => simp at h
  | cons s r ih =>
    cases i with
    | zero => simp [cdv]
    | succ i =>
      have := ih (i := i) (by simpa using h)
      rw [show (i + 1) * 2 = i * 2 + 2 by omega]
      simpa [cdv] using this
theorem cdv_set1 {xs : List (Int × Int)} {i : Nat} (h : i < xs.length) (m : Int) : (cdv xs).set (i * 2 + 1) (.int .i64 m) = cdv (xs.set i (xs[i].1, m)) := by
  induction xs generalizing i with
  | nil => simp at h
  | cons s r ih =>
    cases i with
    | zero => simp [cdv]
    | succ i =>
      have := ih (i := i) (by simpa using h)
      rw [show (i + 1) * 2 + 1 = i * 2 + 1 + 2 by omega]
      simpa [cdv] using this
theorem cdv_set {xs : List (Int × Int)} {i : Nat} (h : i < xs.length) (s : Int × Int) : ((cdv xs).set (i * 2) (.int .i64 s.1)).set (i * 2 + 1) (.int .i64 s.2) = cdv (xs.set i s) := by
  rw [cdv_set0 h, cdv_set1 (by simpa using h)]
  simp
theorem cdv_one : ∀ {xs : List (Int × Int)}, ∀ u ∈ cdv xs, u.oneCell' = true := by
  intro xs
  induction xs with
  | nil => intro u hu; cases hu
  | cons s r ih =>
    intro u hu
    simp only [cdv, List.mem_cons] at hu
    rcases hu with rfl | rfl | hu
    · rfl
    · rfl
    · exact ih u hu
/-- A list of steps that can be read. -/
def RdIc (w : World) (v : Value) (xs : List (Int × Int)) : Prop :=
  ∃ (A : Option Addr) (cap : Nat), v = .slice A xs.length cap ∧ xs.length ≤ 4611686018427387904 ∧ ∀ i (h : i < xs.length), ∃ a, A = some a ∧ a.block < w.heap.size ∧ w.cell? (a.add (i * 2)) = some (.int .i64 xs[i].1) ∧ w.cell? ((a.add (i * 2)).add 1) = some (.int .i64 xs[i].2)
theorem RdIc.below {w w' : World} {v : Value} {xs : List (Int × Int)} (h : RdIc w v xs) (hb : Below w.heap.size w w') : RdIc w' v xs := by
  obtain ⟨A, cap, rfl, hl, hc⟩ := h
  refine ⟨A, cap, rfl, hl, fun i hi => ?_⟩
  obtain ⟨a, rfl, e2, e3, e4⟩ := hc i hi
  exact ⟨a, rfl, by have := hb.size; omega, (hb.cell (by rw [addr_addb]; exact e2)).trans e3, (hb.cell (by rw [addr_addb, addr_addb]; exact e2)).trans e4⟩
theorem RdIc.of_own {w : World} {base : Nat} {e : TypeId} {v : Value} {xs : List (Int × Int)} (h : w.ownsRow base e 2 v xs.length (cdv xs)) (hl : xs.length ≤ 4611686018427387904) : RdIc w v xs := by
  rcases h.2 with ⟨rfl, h0⟩ | ⟨g, cap, cur, rfl, hb, hg, hn, hm, hsz, ht⟩
  · refine ⟨none, 0, by rw [h0], hl, fun i hi => by omega⟩
  · refine ⟨_, cap, rfl, hl, fun i hi => ⟨⟨g, 0, none⟩, rfl, (Array.getElem?_eq_some_iff.1 hg).1, ?_, ?_⟩⟩
    · rw [addr_lit, Nat.zero_add, cell_of_row w g (i * 2) cur e (0, 0) hg]
      have h1 := congrArg (·[i * 2]?) ht
      simp only [cdv_get0 hi, List.getElem?_take] at h1
      rw [if_pos (by omega)] at h1
      simpa using h1
    · rw [addr_lit, Nat.zero_add, addr_lit, cell_of_row w g (i * 2 + 1) cur e (0, 0) hg]
      have h1 := congrArg (·[i * 2 + 1]?) ht
      simp only [cdv_get1 hi, List.getElem?_take] at h1
      rw [if_pos (by omega)] at h1
      simpa using h1
theorem RdIc.form {w : World} {v : Value} {xs : List (Int × Int)} (h : RdIc w v xs) : ∃ A cap, v = .slice A xs.length cap := by
  obtain ⟨A, cap, e, -⟩ := h
  exact ⟨A, cap, e⟩
/-- A new list of steps. -/
def NewIc (w : World) (xs : List (Int × Int)) (e : Ending) (w' : World) : Prop := ∃ v, e = .returned v ∧ w'.ownsRow w.heap.size 25 2 v xs.length (cdv xs) ∧ Below w.heap.size w w'
/-- n marks, from k on. -/
def marksIc (k n : Nat) : List (Int × Int) := (List.range n).map fun (j : Nat) => (((k + 2 * j : Nat) : Int), ((k + 2 * j + 1 : Nat) : Int))
theorem marksIc_len (k n : Nat) : (marksIc k n).length = n := by simp [marksIc]
theorem marksIc_succ (k i : Nat) : marksIc k (i + 1) = marksIc k i ++ [(((k + 2 * i : Nat) : Int), ((k + 2 * i + 1 : Nat) : Int))] := by unfold marksIc; rw [List.range_succ, List.map_append, List.map_cons, List.map_nil]
theorem marksIc_get (k n i : Nat) (h : i < (marksIc k n).length) : (marksIc k n)[i] = ((k : Int) + 2 * (i : Int), (k : Int) + 2 * (i : Int) + 1) := by simp [marksIc]
def halfIc (k i : Nat) (xs : List (Int × Int)) : List (Int × Int) := marksIc k i ++ xs.drop i
theorem halfIc_len (k i : Nat) (xs : List (Int × Int)) (h : i ≤ xs.length) : (halfIc k i xs).length = xs.length := by simp [halfIc, marksIc_len]; omega
theorem halfIc_set {xs : List (Int × Int)} {k i : Nat} (h : i < xs.length) : (halfIc k i xs).set i ((k : Int) + 2 * (i : Int), (k : Int) + 2 * (i : Int) + 1) = halfIc k (i + 1) xs := by
  unfold halfIc
  rw [marksIc_succ, List.set_append_right _ _ (by simp [marksIc_len]), marksIc_len, Nat.sub_self, List.drop_eq_getElem_cons h, List.set_cons_zero]
  simp

end Go.Proofs.YthihfgjolioabaaDoor
