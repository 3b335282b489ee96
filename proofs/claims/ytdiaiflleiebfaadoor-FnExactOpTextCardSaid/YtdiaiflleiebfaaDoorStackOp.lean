/-
  The stack of ops: push and pop.
-/
import Derived.Test.YtdiaiflleiebfaaDoorOpW
import Derived.Test.YtdiaiflleiebfaaDoorAppend
import Derived.Test.YtdiaiflleiebfaaDoorBlk
import Derived.Test.YtdiaiflleiebfaaDoorPrimName
import Derived.RegionTactic
import Derived.ChangeAlike
import Derived.Deep.RegionLaw
import Derived.IntWalk
namespace Go.Proofs.YtdiaiflleiebfaaDoor
open Go.RowKit Go

theorem step_append_src {P : Program} {ops : Array Oper} {o : Oper} {a : Act} {w : World} {K : Act → World → Prop} {Q : Exit → Act → World → Prop} {E : Prop} (hgd : o.guard = none) (s x : Operand) (t : TypeId)
    (ho : o.op = .call { callee := .builtin .append, args := #[s, x], argTypes := #[t, t] })
    (base : Nat) (e : TypeId) (i : TypeInfo) (z : Value) (size bytes : Nat) (ht : P.underlying t = some (.slice e)) (hi : P.info? e = some i) (hz : i.zero = some z)
    (hsize : i.size = size) (hby : i.bytes = bytes) (hzs : z.cells.size = size) (hsz : 0 < size)
    (v : Value) (n : Nat) (xs : List Value) (hs : a.eval s = v) (hown : w.ownsRow base e size v n xs)
    (u : Value) (m : Nat) (ys : List Value) (hx : a.eval x = u) (hsrc : SrcAt w size u m ys) (h1 : ∀ x ∈ ys, x.oneCell' = true)
    (h63 : n + m ≤ maxLen) (hbytes : (n + m) * bytes ≤ 140737488355328) (hbase : base ≤ w.heap.size)
    (h : ∀ v' w', w'.ownsRow base e size v' (n + m) (xs ++ ys) → Hid (AppAlt w w' v v' n m) → K (a.put o.dst v') w') :
    if Region.wanted o (yielded ops a.tmps) = true then Oper.wp P o a w K Q else E := by
  have hw : Region.wanted o (yielded ops a.tmps) = true := by simp [Region.wanted, hgd]
  rw [if_pos hw]
  obtain ⟨v', w', hrun, h2, h3⟩ := run_append_alt (P := P) base t o.type e i z size bytes ht hi hz hsize hby hzs hsz v n xs hown u m ys hsrc h1 h63 hbytes hbase
  unfold Oper.wp
  simp [execOp, ho, resolve, invoke, builtin, hs, hx, hrun, Result.andThen]
  exact h v' w' h2 (Lib.hid h3)
theorem slv_takeO : ∀ (xs : List (Int × Int)) (k : Nat), (slv xs).take (k * 2) = slv (xs.take k)
  | [], k => by simp [slv]
  | a :: r, 0 => by simp [slv]
  | a :: r, k + 1 => by
      rw [show (k + 1) * 2 = k * 2 + 1 + 1 by omega]
      simp only [List.take_succ_cons, slv, slv_takeO r k]
theorem own_formS {w : World} {base size : Nat} {e : TypeId} {v : Value} {n : Nat} {xs : List Value} (h : w.ownsRow base e size v n xs) : ∃ A cap, v = .slice A n cap := by
  rcases h.2 with ⟨rfl, h0⟩ | ⟨g, cap, cur, rfl, -⟩
  · exact ⟨none, 0, by rw [h0]⟩
  · exact ⟨_, _, rfl⟩
theorem box_neS {W : World} {g base size : Nat} {t e : TypeId} {cs : Array Value} {v : Value} {n : Nat} {xs : List Value} (hk : Blk W g t cs) (ho : W.ownsRow base e size v n xs) (ht : t ≠ e) : some g ≠ v.ownBlock := by
  rcases ho.2 with ⟨rfl, -⟩ | ⟨q, cap, cur, rfl, -, hq, -⟩
  · simp [Value.ownBlock]
  · intro h
    have h : g = q := by simpa [Value.ownBlock] using h
    subst h
    unfold Blk at hk
    rw [hk] at hq
    injection hq with h1
    injection h1 with _ h2
    exact ht h2
/-- The last op of a stack. -/
theorem stack_top {w : World} {lo k cap : Nat} {A : Option Addr} {xs : List (Int × Int)} (h : w.ownsRow lo 27 2 (.slice A (k + 1) cap) (k + 1) (slv xs)) : ∃ q s z, A = some ⟨q, 0, none⟩ ∧ k + 1 ≤ cap ∧ q < w.heap.size ∧ lo ≤ q ∧ xs = xs.take k ++ [(s, z)] ∧ w.cell? ⟨q, k * 2, none⟩ = some (.int .i64 s) ∧ w.cell? ⟨q, k * 2 + 1, none⟩ = some (.int .i32 z) ∧ w.ownsRow lo 27 2 (.slice A k cap) k (slv (xs.take k)) := by
  have hl := h.1
  rw [slv_len] at hl
  have hxl : xs.length = k + 1 := by omega
  rcases h.2 with ⟨e1, h0⟩ | ⟨q, cp, cur, e1, hlo, hrow, hle, hm, hsz, ht⟩
  · omega
  · injection e1 with e1 e2 e3
    subst e1 e3
    have hk : k < xs.length := by omega
    have hcell : ∀ j u, j < 2 → (slv xs)[k * 2 + j]? = some u → w.cell? ⟨q, k * 2 + j, none⟩ = some u := fun j u hj hu => by
      rw [cell_of_row w q (k * 2 + j) cur 27 (0, 0) hrow]
      have h1 := congrArg (·[k * 2 + j]?) ht
      simp only [hu, List.getElem?_take] at h1
      rw [if_pos (by omega)] at h1
      simpa using h1
    refine ⟨q, (xs[k]).1, (xs[k]).2, rfl, hle, (Array.getElem?_eq_some_iff.1 hrow).1, hlo, ?_, hcell 0 _ (by omega) (slv_get0 hk), hcell 1 _ (by omega) (slv_get1 hk), ⟨by rw [slv_len, List.length_take]; omega, .inr ⟨q, cap, cur, rfl, hlo, hrow, by omega, hm, hsz, ?_⟩⟩⟩
    · have e := List.take_append_drop k xs
      rw [List.drop_eq_getElem_cons hk, List.drop_of_length_le (by omega)] at e
      exact e.symm
    · have h2 := congrArg (List.take (k * 2)) ht
      rw [List.take_take, show min (k * 2) ((k + 1) * 2) = k * 2 by omega] at h2
      rw [h2, slv_takeO]
end Go.Proofs.YtdiaiflleiebfaaDoor
