/-
  A state that is stored; rows that are kept.
-/
import Derived.Test.YtlkkobffgbjkpaaStOwn
import Derived.Handy
namespace Go.Proofs.Ytlkkobffgbjkpaa
open Go.RowKit Go

/-- A state is stored. -/
def putSt (w : World) (g : Nat) (x0 x1 x2 x3 x4 x5 x6 x7 x8 x9 : Value) : World := ((((((((((w.setCell ⟨g, 0, none⟩ x0).setCell ⟨g, 1, none⟩ x1).setCell ⟨g, 2, none⟩ x2).setCell ⟨g, 3, none⟩ x3).setCell ⟨g, 4, none⟩ x4).setCell ⟨g, 5, none⟩ x5).setCell ⟨g, 6, none⟩ x6).setCell ⟨g, 7, none⟩ x7).setCell ⟨g, 8, none⟩ x8).setCell ⟨g, 9, none⟩ x9)
theorem putSt_blk {w : World} {g : Nat} {t : TypeId} {y0 y1 y2 y3 y4 y5 y6 y7 y8 y9 : Value} (h : Blk w g t #[y0, y1, y2, y3, y4, y5, y6, y7, y8, y9]) (x0 x1 x2 x3 x4 x5 x6 x7 x8 x9 : Value) : Blk (putSt w g x0 x1 x2 x3 x4 x5 x6 x7 x8 x9) g t #[x0, x1, x2, x3, x4, x5, x6, x7, x8, x9] := by
  have := ((((((((((h.put 0 x0).put 1 x1).put 2 x2).put 3 x3).put 4 x4).put 5 x5).put 6 x6).put 7 x7).put 8 x8).put 9 x9)
  simpa [putSt] using this
theorem putSt_only (w : World) (g : Nat) (x0 x1 x2 x3 x4 x5 x6 x7 x8 x9 : Value) : w.grownBy (putSt w g x0 x1 x2 x3 x4 x5 x6 x7 x8 x9) (some g) := by
  have h1 : w.grownBy (w.setCell ⟨g, 0, none⟩ x0) (some g) := only_setCell (World.grownBy.refl _ _) (.inl rfl) _
  have h2 : w.grownBy ((w.setCell ⟨g, 0, none⟩ x0).setCell ⟨g, 1, none⟩ x1) (some g) := only_setCell h1 (.inl rfl) _
  have h3 : w.grownBy (((w.setCell ⟨g, 0, none⟩ x0).setCell ⟨g, 1, none⟩ x1).setCell ⟨g, 2, none⟩ x2) (some g) := only_setCell h2 (.inl rfl) _
  have h4 : w.grownBy ((((w.setCell ⟨g, 0, none⟩ x0).setCell ⟨g, 1, none⟩ x1).setCell ⟨g, 2, none⟩ x2).setCell ⟨g, 3, none⟩ x3) (some g) := only_setCell h3 (.inl rfl) _
  have h5 : w.grownBy (((((w.setCell ⟨g, 0, none⟩ x0).setCell ⟨g, 1, none⟩ x1).setCell ⟨g, 2, none⟩ x2).setCell ⟨g, 3, none⟩ x3).setCell ⟨g, 4, none⟩ x4) (some g) := only_setCell h4 (.inl rfl) _
  have h6 : w.grownBy ((((((w.setCell ⟨g, 0, none⟩ x0).setCell ⟨g, 1, none⟩ x1).setCell ⟨g, 2, none⟩ x2).setCell ⟨g, 3, none⟩ x3).setCell ⟨g, 4, none⟩ x4).setCell ⟨g, 5, none⟩ x5) (some g) := only_setCell h5 (.inl rfl) _
  have h7 : w.grownBy (((((((w.setCell ⟨g, 0, none⟩ x0).setCell ⟨g, 1, none⟩ x1).setCell ⟨g, 2, none⟩ x2).setCell ⟨g, 3, none⟩ x3).setCell ⟨g, 4, none⟩ x4).setCell ⟨g, 5, none⟩ x5).setCell ⟨g, 6, none⟩ x6) (some g) := only_setCell h6 (.inl rfl) _
  have h8 : w.grownBy ((((((((w.setCell ⟨g, 0, none⟩ x0).setCell ⟨g, 1, none⟩ x1).setCell ⟨g, 2, none⟩ x2).setCell ⟨g, 3, none⟩ x3).setCell ⟨g, 4, none⟩ x4).setCell ⟨g, 5, none⟩ x5).setCell ⟨g, 6, none⟩ x6).setCell ⟨g, 7, none⟩ x7) (some g) := only_setCell h7 (.inl rfl) _
  have h9 : w.grownBy (((((((((w.setCell ⟨g, 0, none⟩ x0).setCell ⟨g, 1, none⟩ x1).setCell ⟨g, 2, none⟩ x2).setCell ⟨g, 3, none⟩ x3).setCell ⟨g, 4, none⟩ x4).setCell ⟨g, 5, none⟩ x5).setCell ⟨g, 6, none⟩ x6).setCell ⟨g, 7, none⟩ x7).setCell ⟨g, 8, none⟩ x8) (some g) := only_setCell h8 (.inl rfl) _
  have h10 : w.grownBy ((((((((((w.setCell ⟨g, 0, none⟩ x0).setCell ⟨g, 1, none⟩ x1).setCell ⟨g, 2, none⟩ x2).setCell ⟨g, 3, none⟩ x3).setCell ⟨g, 4, none⟩ x4).setCell ⟨g, 5, none⟩ x5).setCell ⟨g, 6, none⟩ x6).setCell ⟨g, 7, none⟩ x7).setCell ⟨g, 8, none⟩ x8).setCell ⟨g, 9, none⟩ x9) (some g) := only_setCell h9 (.inl rfl) _
  exact h10
theorem putSt_size (w : World) (g : Nat) (x0 x1 x2 x3 x4 x5 x6 x7 x8 x9 : Value) : (putSt w g x0 x1 x2 x3 x4 x5 x6 x7 x8 x9).heap.size = w.heap.size := by
  have hz : ∀ (w : World) (p : Addr) (u : Value), (w.setCell p u).heap.size = w.heap.size := fun w p u => by simp [World.setCell]
  unfold putSt
  simp only [hz]
theorem putSt_far {w : World} {g q : Nat} {t : TypeId} {cs : Array Value} (h : Blk w q t cs) (hq : q ≠ g) (x0 x1 x2 x3 x4 x5 x6 x7 x8 x9 : Value) : Blk (putSt w g x0 x1 x2 x3 x4 x5 x6 x7 x8 x9) q t cs := h.grown (putSt_only w g x0 x1 x2 x3 x4 x5 x6 x7 x8 x9) (fun e => hq (Option.some.inj e))
/-- Nothing of a row is changed by a store elsewhere. -/
theorem own_putG {w : World} {base size : Nat} {e : TypeId} {v : Value} {n : Nat} {xs : List Value} (h : w.ownsRow base e size v n xs) {p : Addr} (hp : p.block < base) (u : Value) : (w.setCell p u).ownsRow base e size v n xs :=
  h.kept (row := some p.block) (only_setCell (World.grownBy.refl _ _) (.inl rfl) _) (.inr fun e => by have := own_lt h _ e; omega)
theorem own_belowG {w w' : World} {base size B : Nat} {e : TypeId} {v : Value} {n : Nat} {xs : List Value} (h : w.ownsRow base e size v n xs) (hb : Below B w w') (hB : w.heap.size ≤ B) : w'.ownsRow base e size v n xs :=
  h.kept (row := none) ⟨hb.os, hb.tape, hb.output, hb.size, fun i hi _ => hb.block i (by omega)⟩ (by cases v.ownBlock <;> simp)
theorem own_formG {w : World} {base size : Nat} {e : TypeId} {v : Value} {n : Nat} {xs : List Value} (h : w.ownsRow base e size v n xs) : ∃ A cap, v = .slice A n cap := by
  rcases h.2 with ⟨rfl, h0⟩ | ⟨g, cap, cur, rfl, -⟩
  · exact ⟨none, 0, by rw [h0]⟩
  · exact ⟨_, _, rfl⟩
theorem own_setSt {w : World} {base size g : Nat} {e : TypeId} {v : Value} {n : Nat} {xs : List Value} (h : w.ownsRow base e size v n xs) (hp : g < base) (x0 x1 x2 x3 x4 x5 x6 x7 x8 x9 : Value) : (putSt w g x0 x1 x2 x3 x4 x5 x6 x7 x8 x9).ownsRow base e size v n xs :=
  h.kept (putSt_only _ _ _ _ _ _ _ _ _ _ _ _) (.inr fun e => by have := own_lt h _ e; omega)
theorem apart_lt {w : World} {b2 s2 n2 : Nat} {e2 : TypeId} {u v : Value} {ys : List Value} {k : Nat} (h1 : ∀ j, u.ownBlock = some j → j < k) (h2 : w.ownsRow b2 e2 s2 v n2 ys) (hk : k ≤ b2) : u.ownBlock = none ∨ u.ownBlock ≠ v.ownBlock := by
  cases hq : u.ownBlock with
  | none => exact .inl rfl
  | some j => exact .inr fun e => by have h3 := h1 j hq; have h4 := own_lt h2 j e.symm; omega
theorem OwnSt.of7T {w : World} {lo : Nat} {d r m c v o i : Value} {S : S8}
    (hd : w.ownsRow lo 21 1 d S.data.length (S.data.map iv)) (hr : w.ownsRow lo 109 2 r S.ret.length (slv S.ret)) (hm : w.ownsRow lo 21 1 m S.mem.length (S.mem.map iv)) (hc : w.ownsRow lo 144 1 c S.cells.length (S.cells.map u32v))
    (hv : w.ownsRow lo 3 1 v S.vars.length (S.vars.map lv)) (ho : w.ownsRow lo 5 1 o S.out.length (S.out.map b8v)) (hi : TailB w lo 5 i S.inp.length (S.inp.map b8v)) (hdm : d.ownBlock = none ∨ d.ownBlock ≠ m.ownBlock) (hoi : o.ownBlock = none ∨ o.ownBlock ≠ i.ownBlock) : OwnSt w lo w.heap.size d r m c v o i S := by
  refine ⟨fun x hx k hk => ?_, hdm, hoi, hd, hr, hm, hc, hv, ho, hi⟩
  simp only [List.mem_cons, List.not_mem_nil, or_false] at hx
  rcases hx with rfl | rfl | rfl | rfl | rfl | rfl | rfl
  · exact (World.ownsRow.lt hd k hk).2
  · exact (World.ownsRow.lt hr k hk).2
  · exact (World.ownsRow.lt hm k hk).2
  · exact (World.ownsRow.lt hc k hk).2
  · exact (World.ownsRow.lt hv k hk).2
  · exact (World.ownsRow.lt ho k hk).2
  · exact (TailB.lt hi k hk).2
theorem OwnSt.of7 {w : World} {lo : Nat} {d r m c v o i : Value} {S : S8}
    (hd : w.ownsRow lo 21 1 d S.data.length (S.data.map iv)) (hr : w.ownsRow lo 109 2 r S.ret.length (slv S.ret)) (hm : w.ownsRow lo 21 1 m S.mem.length (S.mem.map iv)) (hc : w.ownsRow lo 144 1 c S.cells.length (S.cells.map u32v))
    (hv : w.ownsRow lo 3 1 v S.vars.length (S.vars.map lv)) (ho : w.ownsRow lo 5 1 o S.out.length (S.out.map b8v)) (hi : w.ownsRow lo 5 1 i S.inp.length (S.inp.map b8v)) (hdm : d.ownBlock = none ∨ d.ownBlock ≠ m.ownBlock) (hoi : o.ownBlock = none ∨ o.ownBlock ≠ i.ownBlock) : OwnSt w lo w.heap.size d r m c v o i S :=
  OwnSt.of7T hd hr hm hc hv ho (.of_own hi) hdm hoi
end Go.Proofs.Ytlkkobffgbjkpaa
