/-
  Lists of numbers of 32 bits: whether two are alike, a copy of one, the marks that are laid into one, whether they lie there.
-/
import Derived.Test.YthihfgjolioabaaDoorKit
import Derived.Test.YthihfgjolioabaaDoorBlk
import Derived.Test.YthihfgjolioabaaDoorLaw
import Derived.Deep.DrawnRows
import Derived.DataElems
namespace Go.Proofs.YthihfgjolioabaaDoor
open Go.RowKit Go

def u32v (n : Nat) : Value := .int .u32 (n : Int)
/-- A list of numbers that can be read. -/
def RdN (w : World) (v : Value) (xs : List Nat) : Prop :=
  ∃ (A : Option Addr) (cap : Nat), v = .slice A xs.length cap ∧ xs.length ≤ 4611686018427387904 ∧ ∀ i (h : i < xs.length), ∃ a, A = some a ∧ a.block < w.heap.size ∧ w.cell? (a.add i) = some (u32v xs[i])
theorem addr_addb (a : Addr) (n : Nat) : (a.add n).block = a.block := by unfold Addr.add; split <;> rfl
theorem addr_lit (b o n : Nat) : Addr.add ⟨b, o, none⟩ n = ⟨b, o + n, none⟩ := by unfold Addr.add; split <;> simp_all
theorem RdN.keep {w w' : World} {v : Value} {xs : List Nat} (h : RdN w v xs) (hs : w.heap.size ≤ w'.heap.size) (hk : ∀ p : Addr, p.block < w.heap.size → (∃ a, v = .slice (some a) xs.length (match v with | .slice _ _ c => c | _ => 0) ∧ p.block = a.block) → w'.cell? p = w.cell? p) : RdN w' v xs := by
  obtain ⟨A, cap, rfl, hl, hc⟩ := h
  refine ⟨A, cap, rfl, hl, fun i hi => ?_⟩
  obtain ⟨a, rfl, e2, e3⟩ := hc i hi
  exact ⟨a, rfl, by omega, (hk _ (by rw [addr_addb]; exact e2) ⟨a, rfl, addr_addb _ _⟩).trans e3⟩
theorem RdN.below {w w' : World} {v : Value} {xs : List Nat} (h : RdN w v xs) (hb : Below w.heap.size w w') : RdN w' v xs := h.keep hb.size fun _ hp _ => hb.cell hp
theorem RdN.of_own {w : World} {base : Nat} {e : TypeId} {v : Value} {xs : List Nat} (h : w.ownsRow base e 1 v xs.length (xs.map u32v)) (hl : xs.length ≤ 4611686018427387904) : RdN w v xs := by
  rcases h.2 with ⟨rfl, h0⟩ | ⟨g, cap, cur, rfl, hb, hg, hn, hm, hsz, ht⟩
  · refine ⟨none, 0, by rw [h0], hl, fun i hi => by omega⟩
  · refine ⟨_, cap, rfl, hl, fun i hi => ⟨⟨g, 0, none⟩, rfl, (Array.getElem?_eq_some_iff.1 hg).1, ?_⟩⟩
    rw [addr_lit, Nat.zero_add, cell_of_row w g i cur e (0, 0) hg]
    have h1 := congrArg (·[i]?) ht
    simpa [List.getElem?_take, hi] using h1
theorem own_lt {W : World} {base : Nat} {e : TypeId} {size : Nat} {v : Value} {n : Nat} {xs : List Value} (h : W.ownsRow base e size v n xs) : ∀ k, v.ownBlock = some k → base ≤ k := fun k hk => by
  rcases h.2 with ⟨rfl, _⟩ | ⟨g, cap, cur, rfl, h1, _, _⟩
  · simp [Value.ownBlock] at hk
  · obtain rfl : g = k := by simpa [Value.ownBlock] using hk
    exact h1
theorem own_empty (w : World) (e : TypeId) : (w.alloc (.cells #[] e)).ownsRow w.heap.size e 1 (.slice (some ⟨w.heap.size, 0, none⟩) 0 0) 0 [] :=
  ⟨rfl, .inr ⟨w.heap.size, 0, #[], rfl, Nat.le_refl _, heap_alloc_new w _, Nat.le_refl _, Nat.zero_le _, rfl, rfl⟩⟩
/-- A new list of numbers. -/
def NewN (w : World) (xs : List Nat) (e : Ending) (w' : World) : Prop := ∃ v, e = .returned v ∧ w'.ownsRow w.heap.size 74 1 v xs.length (xs.map u32v) ∧ Below w.heap.size w w'
theorem u32_ne {a b : Nat} (h : a ≠ b) : ((a : Int) == (b : Int)) = false := by simp; omega
theorem u32_bne {a b : Nat} (h : a ≠ b) : ((a : Int) != (b : Int)) = true := by simp; omega
theorem u32_beq (a : Nat) : ((a : Int) != (a : Int)) = false := by simp

/-- n marks, from k on. -/
def marksN (k n : Nat) : List Nat := (List.range n).map (k + ·)
theorem marksN_len (k n : Nat) : (marksN k n).length = n := by simp [marksN]
theorem marksN_succ (k i : Nat) : marksN k (i + 1) = marksN k i ++ [k + i] := by unfold marksN; rw [List.range_succ]; simp
theorem marksN_set {xs : List Nat} {k i : Nat} (h : i < xs.length) : ((marksN k i ++ xs.drop i).map u32v).set i (.int .u32 ((k : Int) + (i : Int))) = (marksN k (i + 1) ++ xs.drop (i + 1)).map u32v := by
  have e : Value.int .u32 ((k : Int) + (i : Int)) = u32v (k + i) := by unfold u32v; push_cast; rfl
  rw [e, marksN_succ, List.map_append, List.map_append, List.set_append_right _ _ (by simp [marksN_len]), List.length_map, marksN_len, Nat.sub_self, List.drop_eq_getElem_cons h, List.map_cons, List.set_cons_zero]
  simp
/-- Where marking stands: block g holds i marks, then what it held. -/
structure MarkedN (W wr : World) (g : Nat) (n : Nat) (xs : List Nat) (k i : Nat) (cap : Nat) (cur : Array Value) : Prop where
  blk : Blk wr g 74 cur
  size : cur.size = cap
  take : cur.toList.take n = (marksN k i ++ xs.drop i).map u32v
  grown : W.grownBy wr (some g)
theorem MarkedN.step {W wr : World} {g : Nat} {xs : List Nat} {k i cap : Nat} {cur : Array Value} (h : MarkedN W wr g xs.length xs k i cap cur) (hi : i < xs.length) :
    MarkedN W (wr.setCell ⟨g, i, none⟩ (.int .u32 ((k : Int) + (i : Int)))) g xs.length xs k (i + 1) cap (cur.setIfInBounds i (.int .u32 ((k : Int) + (i : Int)))) := by
  refine ⟨h.blk.put _ _, by simpa using h.size, ?_, only_setCell h.grown (.inl rfl) _⟩
  rw [Array.toList_setIfInBounds, List.take_set, h.take, marksN_set hi]
theorem MarkedN.cell {W wr : World} {g n : Nat} {xs : List Nat} {k i cap : Nat} {cur : Array Value} (h : MarkedN W wr g n xs k i cap cur) (hi : i < cap) : ∃ u, wr.cell? ⟨g, i, none⟩ = some u ∧ wr.frozen? ⟨g, i, none⟩ = false := by
  have hs := h.size
  exact ⟨cur[i]'(by omega), by rw [h.blk.cell, Array.getElem?_eq_getElem (by omega)], h.blk.frozen i⟩

end Go.Proofs.YthihfgjolioabaaDoor
