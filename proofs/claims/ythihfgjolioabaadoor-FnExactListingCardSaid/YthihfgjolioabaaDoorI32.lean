/-
  Lists of signed numbers (int32): a copy of one, whether two are alike, the marks that are laid into one, whether they lie there.
-/
import Derived.Test.YthihfgjolioabaaDoorLists
namespace Go.Proofs.YthihfgjolioabaaDoor
open Go.RowKit Go

def iv (n : Int) : Value := .int .i32 n
/-- A list of numbers that can be read. -/
def RdI (w : World) (v : Value) (xs : List Int) : Prop :=
  ∃ (A : Option Addr) (cap : Nat), v = .slice A xs.length cap ∧ xs.length ≤ 4611686018427387904 ∧ ∀ i (h : i < xs.length), ∃ a, A = some a ∧ a.block < w.heap.size ∧ w.cell? (a.add i) = some (iv xs[i])
theorem RdI.below {w w' : World} {v : Value} {xs : List Int} (h : RdI w v xs) (hb : Below w.heap.size w w') : RdI w' v xs := by
  obtain ⟨A, cap, rfl, hl, hc⟩ := h
  refine ⟨A, cap, rfl, hl, fun i hi => ?_⟩
  obtain ⟨a, rfl, e2, e3⟩ := hc i hi
  exact ⟨a, rfl, by have := hb.size; omega, (hb.cell (by rw [addr_addb]; exact e2)).trans e3⟩
theorem RdI.of_own {w : World} {base : Nat} {e : TypeId} {v : Value} {xs : List Int} (h : w.ownsRow base e 1 v xs.length (xs.map iv)) (hl : xs.length ≤ 4611686018427387904) : RdI w v xs := by
  rcases h.2 with ⟨rfl, h0⟩ | ⟨g, cap, cur, rfl, hb, hg, hn, hm, hsz, ht⟩
  · refine ⟨none, 0, by rw [h0], hl, fun i hi => by omega⟩
  · refine ⟨_, cap, rfl, hl, fun i hi => ⟨⟨g, 0, none⟩, rfl, (Array.getElem?_eq_some_iff.1 hg).1, ?_⟩⟩
    rw [addr_lit, Nat.zero_add, cell_of_row w g i cur e (0, 0) hg]
    have h1 := congrArg (·[i]?) ht
    simpa [List.getElem?_take, hi] using h1
theorem RdI.form {w : World} {v : Value} {xs : List Int} (h : RdI w v xs) : ∃ A cap, v = .slice A xs.length cap := by
  obtain ⟨A, cap, e, -⟩ := h
  exact ⟨A, cap, e⟩
/-- A new list of numbers. -/
def NewI (w : World) (xs : List Int) (e : Ending) (w' : World) : Prop := ∃ v, e = .returned v ∧ w'.ownsRow w.heap.size 21 1 v xs.length (xs.map iv) ∧ Below w.heap.size w w'

/-- n marks, from k on. -/
def marksI (k n : Nat) : List Int := (List.range n).map fun j => ((k + j : Nat) : Int)
theorem marksI_len (k n : Nat) : (marksI k n).length = n := by simp [marksI]
theorem marksI_succ (k i : Nat) : marksI k (i + 1) = marksI k i ++ [((k + i : Nat) : Int)] := by unfold marksI; rw [List.range_succ]; simp
theorem marksI_set {xs : List Int} {k i : Nat} (h : i < xs.length) : ((marksI k i ++ xs.drop i).map iv).set i (.int .i32 ((k : Int) + (i : Int))) = (marksI k (i + 1) ++ xs.drop (i + 1)).map iv := by
  have e : Value.int .i32 ((k : Int) + (i : Int)) = iv ((k + i : Nat) : Int) := by unfold iv; push_cast; rfl
  rw [e, marksI_succ, List.map_append, List.map_append, List.set_append_right _ _ (by simp [marksI_len]), List.length_map, marksI_len, Nat.sub_self, List.drop_eq_getElem_cons h, List.map_cons, List.set_cons_zero]
  simp
/-- Where marking stands: block g holds i marks, then what it held. -/
structure MarkedI (W wr : World) (g : Nat) (n : Nat) (xs : List Int) (k i : Nat) (cap : Nat) (cur : Array Value) : Prop where
  blk : Blk wr g 21 cur
  size : cur.size = cap
  take : cur.toList.take n = (marksI k i ++ xs.drop i).map iv
  grown : W.grownBy wr (some g)
theorem MarkedI.step {W wr : World} {g : Nat} {xs : List Int} {k i cap : Nat} {cur : Array Value} (h : MarkedI W wr g xs.length xs k i cap cur) (hi : i < xs.length) :
    MarkedI W (wr.setCell ⟨g, i, none⟩ (.int .i32 ((k : Int) + (i : Int)))) g xs.length xs k (i + 1) cap (cur.setIfInBounds i (.int .i32 ((k : Int) + (i : Int)))) := by
  refine ⟨h.blk.put _ _, by simpa using h.size, ?_, only_setCell h.grown (.inl rfl) _⟩
  rw [Array.toList_setIfInBounds, List.take_set, h.take, marksI_set hi]
theorem MarkedI.cell {W wr : World} {g n : Nat} {xs : List Int} {k i cap : Nat} {cur : Array Value} (h : MarkedI W wr g n xs k i cap cur) (hi : i < cap) : ∃ u, wr.cell? ⟨g, i, none⟩ = some u ∧ wr.frozen? ⟨g, i, none⟩ = false := by
  have hs := h.size
  exact ⟨cur[i]'(by omega), by rw [h.blk.cell, Array.getElem?_eq_getElem (by omega)], h.blk.frozen i⟩

theorem marksI_get (k n i : Nat) (h : i < (marksI k n).length) : (marksI k n)[i] = (k : Int) + (i : Int) := by simp [marksI]
theorem infoI : (Tryd.prog.info? 21).map (fun i => (i.zero, i.size, i.bytes)) = some (some (.int .i32 0), 1, 4) := by kernel_rfl
def copiedI (xs : List Int) (i : Nat) : List Int := xs.take i ++ List.replicate (xs.length - i) 0
theorem copiedI_len (xs : List Int) (i : Nat) (h : i ≤ xs.length) : (copiedI xs i).length = xs.length := by simp [copiedI]; omega
theorem copiedI_zero (xs : List Int) : (copiedI xs 0).map iv = List.replicate xs.length (.int .i32 0) := by simp [copiedI, iv]
theorem copiedI_full (xs : List Int) : copiedI xs xs.length = xs := by simp [copiedI]
theorem copiedI_set {xs : List Int} {i : Nat} (h : i < xs.length) : ((copiedI xs i).map iv).set i (.int .i32 xs[i]) = (copiedI xs (i + 1)).map iv := by
  have e : Value.int .i32 xs[i] = iv xs[i] := rfl
  rw [e, List.map_set.symm]
  congr 1
  unfold copiedI
  obtain ⟨m, hm⟩ : ∃ m, xs.length - i = m + 1 := ⟨xs.length - i - 1, by omega⟩
  rw [hm, show xs.length - (i + 1) = m by omega, List.replicate_succ, List.set_append_right _ _ (by simp; omega)]
  have : i - (xs.take i).length = 0 := by simp; omega
  rw [this, List.set_cons_zero, List.take_succ_eq_append_getElem h, List.append_assoc]
  rfl

end Go.Proofs.YthihfgjolioabaaDoor
