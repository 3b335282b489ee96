/-
  Lists of signed numbers (int): a copy of one, whether two are alike, the marks that are laid into one, whether they lie there.
-/
import Derived.Test.YthihfgjolioabaaDoorLists
namespace Go.Proofs.YthihfgjolioabaaDoor
open Go.RowKit Go

def lv (n : Int) : Value := .int .i64 n
/-- A list of numbers that can be read. -/
def RdL (w : World) (v : Value) (xs : List Int) : Prop :=
  ∃ (A : Option Addr) (cap : Nat), v = .slice A xs.length cap ∧ xs.length ≤ 4611686018427387904 ∧ ∀ i (h : i < xs.length), ∃ a, A = some a ∧ a.block < w.heap.size ∧ w.cell? (a.add i) = some (lv xs[i])
theorem RdL.below {w w' : World} {v : Value} {xs : List Int} (h : RdL w v xs) (hb : Below w.heap.size w w') : RdL w' v xs := by
  obtain ⟨A, cap, rfl, hl, hc⟩ := h
  refine ⟨A, cap, rfl, hl, fun i hi => ?_⟩
  obtain ⟨a, rfl, e2, e3⟩ := hc i hi
  exact ⟨a, rfl, by have := hb.size; omega, (hb.cell (by rw [addr_addb]; exact e2)).trans e3⟩
theorem RdL.of_own {w : World} {base : Nat} {e : TypeId} {v : Value} {xs : List Int} (h : w.ownsRow base e 1 v xs.length (xs.map lv)) (hl : xs.length ≤ 4611686018427387904) : RdL w v xs := by
  rcases h.2 with ⟨rfl, h0⟩ | ⟨g, cap, cur, rfl, hb, hg, hn, hm, hsz, ht⟩
  · refine ⟨none, 0, by rw [h0], hl, fun i hi => by omega⟩
  · refine ⟨_, cap, rfl, hl, fun i hi => ⟨⟨g, 0, none⟩, rfl, (Array.getElem?_eq_some_iff.1 hg).1, ?_⟩⟩
    rw [addr_lit, Nat.zero_add, cell_of_row w g i cur e (0, 0) hg]
    have h1 := congrArg (·[i]?) ht
    simpa [List.getElem?_take, hi] using h1
theorem RdL.form {w : World} {v : Value} {xs : List Int} (h : RdL w v xs) : ∃ A cap, v = .slice A xs.length cap := by
  obtain ⟨A, cap, e, -⟩ := h
  exact ⟨A, cap, e⟩
/-- A new list of numbers. -/
def NewL (w : World) (xs : List Int) (e : Ending) (w' : World) : Prop := ∃ v, e = .returned v ∧ w'.ownsRow w.heap.size 3 1 v xs.length (xs.map lv) ∧ Below w.heap.size w w'

/-- n marks, from k on. -/
def marksL (k n : Nat) : List Int := (List.range n).map fun j => ((k + j : Nat) : Int)
theorem marksL_len (k n : Nat) : (marksL k n).length = n := by simp [marksL]
theorem marksL_succ (k i : Nat) : marksL k (i + 1) = marksL k i ++ [((k + i : Nat) : Int)] := by unfold marksL; rw [List.range_succ]; simp
theorem marksL_set {xs : List Int} {k i : Nat} (h : i < xs.length) : ((marksL k i ++ xs.drop i).map lv).set i (.int .i64 ((k : Int) + (i : Int))) = (marksL k (i + 1) ++ xs.drop (i + 1)).map lv := by
  have e : Value.int .i64 ((k : Int) + (i : Int)) = lv ((k + i : Nat) : Int) := by unfold lv; push_cast; rfl
  rw [e, marksL_succ, List.map_append, List.map_append, List.set_append_right _ _ (by simp [marksL_len]), List.length_map, marksL_len, Nat.sub_self, List.drop_eq_getElem_cons h, List.map_cons, List.set_cons_zero]
  simp
/-- Where marking stands: block g holds i marks, then what it held. -/
structure MarkedL (W wr : World) (g : Nat) (n : Nat) (xs : List Int) (k i : Nat) (cap : Nat) (cur : Array Value) : Prop where
  blk : Blk wr g 3 cur
  size : cur.size = cap
  take : cur.toList.take n = (marksL k i ++ xs.drop i).map lv
  grown : W.grownBy wr (some g)
theorem MarkedL.step {W wr : World} {g : Nat} {xs : List Int} {k i cap : Nat} {cur : Array Value} (h : MarkedL W wr g xs.length xs k i cap cur) (hi : i < xs.length) :
    MarkedL W (wr.setCell ⟨g, i, none⟩ (.int .i64 ((k : Int) + (i : Int)))) g xs.length xs k (i + 1) cap (cur.setIfInBounds i (.int .i64 ((k : Int) + (i : Int)))) := by
  refine ⟨h.blk.put _ _, by simpa using h.size, ?_, only_setCell h.grown (.inl rfl) _⟩
  rw [Array.toList_setIfInBounds, List.take_set, h.take, marksL_set hi]
theorem MarkedL.cell {W wr : World} {g n : Nat} {xs : List Int} {k i cap : Nat} {cur : Array Value} (h : MarkedL W wr g n xs k i cap cur) (hi : i < cap) : ∃ u, wr.cell? ⟨g, i, none⟩ = some u ∧ wr.frozen? ⟨g, i, none⟩ = false := by
  have hs := h.size
  exact ⟨cur[i]'(by omega), by rw [h.blk.cell, Array.getElem?_eq_getElem (by omega)], h.blk.frozen i⟩

theorem marksL_get (k n i : Nat) (h : i < (marksL k n).length) : (marksL k n)[i] = (k : Int) + (i : Int) := by simp [marksL]
theorem infoL : (Tryd.prog.info? 3).map (fun i => (i.zero, i.size, i.bytes)) = some (some (.int .i64 0), 1, 8) := by kernel_rfl
def copiedL (xs : List Int) (i : Nat) : List Int := xs.take i ++ List.replicate (xs.length - i) 0
theorem copiedL_len (xs : List Int) (i : Nat) (h : i ≤ xs.length) : (copiedL xs i).length = xs.length := by simp [copiedL]; omega
theorem copiedL_zero (xs : List Int) : (copiedL xs 0).map lv = List.replicate xs.length (.int .i64 0) := by simp [copiedL, lv]
theorem copiedL_full (xs : List Int) : copiedL xs xs.length = xs := by simp [copiedL]
theorem copiedL_set {xs : List Int} {i : Nat} (h : i < xs.length) : ((copiedL xs i).map lv).set i (.int .i64 xs[i]) = (copiedL xs (i + 1)).map lv := by
  have e : Value.int .i64 xs[i] = lv xs[i] := rfl
  rw [e, List.map_set.symm]
  congr 1
  unfold copiedL
  obtain ⟨m, hm⟩ : ∃ m, xs.length - i = m + 1 := ⟨xs.length - i - 1, by omega⟩
  rw [hm, show xs.length - (i + 1) = m by omega, List.replicate_succ, List.set_append_right _ _ (by simp; omega)]
  have : i - (xs.take i).length = 0 := by simp; omega
  rw [this, List.set_cons_zero, List.take_succ_eq_append_getElem h, List.append_assoc]
  rfl

end Go.Proofs.YthihfgjolioabaaDoor
