/-
  Lists of slots: whether two are alike, a copy of one, the marks that are laid into one, whether they lie there.
-/
import Derived.Test.YthihfgjolioabaaDoorOps
import Derived.Handy
import Derived.Deep.RegionHeld3
namespace Go.Proofs.YthihfgjolioabaaDoor
open Go.RowKit Go

/-- The cells of one slot of a list, as the walk spells them. -/
theorem RdS.item {w : World} {A : Option Addr} {n cap : Nat} {xs : List (Int × Int)} (h : RdS w (.slice A n cap) xs) {i : Nat} (hi : i < xs.length) : ∃ a, A = some a ∧ a.block < w.heap.size ∧ w.cell? (a.add (i * 2)) = some (.int .i64 xs[i].1) ∧ w.cell? ⟨(a.add (i * 2)).block, (a.add (i * 2)).off + 1, none⟩ = some (.int .i32 xs[i].2) := by
  obtain ⟨A3, c4, hv4, -, hc4⟩ := h
  injection hv4 with e1 e2 e3
  subst e1 e3
  obtain ⟨a, rfl, hb, q0, q1⟩ := hc4 i hi
  exact ⟨a, rfl, hb, q0, q1⟩
theorem slv_mid {xs : List (Int × Int)} {k i : Nat} (h : i < xs.length) : ((slv (halfS k i xs)).set (i * 2) (.int .i64 ((k : Int) + 2 * (i : Int)))).set (i * 2 + 1) (.int .i32 ((k : Int) + 2 * (i : Int) + 1)) = slv (halfS k (i + 1) xs) := by
  have hl := halfS_len k i xs (by omega)
  rw [slv_set (xs := halfS k i xs) (by omega) ((k : Int) + 2 * (i : Int), (k : Int) + 2 * (i : Int) + 1), halfS_set h]
def copiedS (xs : List (Int × Int)) (i : Nat) : List (Int × Int) := xs.take i ++ List.replicate (xs.length - i) (0, 0)
theorem copiedS_len (xs : List (Int × Int)) (i : Nat) (h : i ≤ xs.length) : (copiedS xs i).length = xs.length := by simp [copiedS]; omega
theorem slv_rep (n : Nat) : slv (List.replicate n (0, 0)) = (List.replicate n [Value.int .i64 0, Value.int .i32 0]).flatten := by
  induction n with
  | zero => rfl
  | succ n ih => simp only [List.replicate_succ, slv, ih, List.flatten_cons, List.cons_append, List.nil_append]
theorem copiedS_zero (xs : List (Int × Int)) : slv (copiedS xs 0) = (List.replicate xs.length [Value.int .i64 0, Value.int .i32 0]).flatten := by simp [copiedS, slv_rep]
theorem copiedS_full (xs : List (Int × Int)) : copiedS xs xs.length = xs := by simp [copiedS]
theorem copiedS_set {xs : List (Int × Int)} {i : Nat} (h : i < xs.length) : ((slv (copiedS xs i)).set (i * 2) (.int .i64 xs[i].1)).set (i * 2 + 1) (.int .i32 xs[i].2) = slv (copiedS xs (i + 1)) := by
  rw [slv_set (xs := copiedS xs i) (by rw [copiedS_len xs i (by omega)]; exact h)]
  congr 1
  unfold copiedS
  obtain ⟨m, hm⟩ : ∃ m, xs.length - i = m + 1 := ⟨xs.length - i - 1, by omega⟩
  rw [hm, show xs.length - (i + 1) = m by omega, List.replicate_succ, List.set_append_right _ _ (by simp; omega)]
  have : i - (xs.take i).length = 0 := by simp; omega
  rw [this, List.set_cons_zero, List.take_succ_eq_append_getElem h, List.append_assoc]
  rfl
theorem made_slv (n : Nat) : (madeCells #[Value.int .i64 0, Value.int .i32 0] (n * 2)).toList = slv (List.replicate n (0, 0)) := by
  refine List.ext_getElem (by simp [madeCells, slv_len]) fun i h1 h2 => ?_
  have h3 : i < n * 2 := by simpa [madeCells] using h1
  obtain ⟨j, hj⟩ : ∃ j, i = j * 2 ∨ i = j * 2 + 1 := ⟨i / 2, by omega⟩
  rcases hj with rfl | rfl
  · have := slv_get0 (xs := List.replicate n (0, 0)) (i := j) (by simp; omega)
    rw [List.getElem?_eq_getElem h2] at this
    rw [Option.some.inj this]
    simp [madeCells]
  · have := slv_get1 (xs := List.replicate n (0, 0)) (i := j) (by simp; omega)
    rw [List.getElem?_eq_getElem h2] at this
    rw [Option.some.inj this]
    have e : (j * 2 + 1) % 2 = 1 := by omega
    simp [madeCells, e]
end Go.Proofs.YthihfgjolioabaaDoor
