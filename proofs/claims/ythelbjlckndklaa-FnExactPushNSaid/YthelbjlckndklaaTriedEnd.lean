/-
  What impl.tried hands back.
-/
import Derived.Test.YthelbjlckndklaaBench
namespace Go.Proofs.Ythelbjlckndklaa
open Go.RowKit Go

/-- A state handed back, whose rows may lie in rows that were handed in. -/
def TriedEnd (w : World) (lo hi : Nat) (T : S8) (e : Ending) (w' : World) : Prop :=
  ∃ d r m c v o i, e = .returned (.agg #[d, r, .int .i32 T.a, m, c, v, o, i, .int .i64 T.fault, .int .i64 T.fuel]) ∧ OwnSt w' lo w'.heap.size d r m c v o i T ∧ Chg w w' (fun k => lo ≤ k ∧ k < hi)
theorem Chg.setNew {w w' : World} {P : Nat → Prop} (h : Chg w w' P) {p : Addr} (hp : w.heap.size ≤ p.block) (u : Value) : Chg w (w'.setCell p u) P :=
  ⟨h.os, h.tape, h.output, by simpa [World.setCell] using h.size, fun k hk hn => (Below.heap_setCell w' p u k (by rintro rfl; omega)).trans (h.block k hk hn)⟩
theorem Chg.putSt {w w' : World} {P : Nat → Prop} (h : Chg w w' P) {g : Nat} (hg : w.heap.size ≤ g) (x0 x1 x2 x3 x4 x5 x6 x7 x8 x9 : Value) : Chg w (putSt w' g x0 x1 x2 x3 x4 x5 x6 x7 x8 x9) P :=
  have k := putSt_only w' g x0 x1 x2 x3 x4 x5 x6 x7 x8 x9
  ⟨k.os.trans h.os, k.tape.trans h.tape, k.output.trans h.output, Nat.le_trans h.size k.size, fun j hj hn => (k.block j (Nat.lt_of_lt_of_le hj h.size) (fun e => by injection e with e; omega)).trans (h.block j hj hn)⟩
end Go.Proofs.Ythelbjlckndklaa
