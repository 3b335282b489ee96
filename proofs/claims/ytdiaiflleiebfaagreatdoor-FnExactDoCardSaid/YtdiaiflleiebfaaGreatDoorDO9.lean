/-
  The size of a state that comes in.
  The size of a state that is too great.
  Append as a law: onto a row of the call's own, from a list that can be read, nil or not; with a word on where the result lies.
  The table of the built-in words.
  spec.l08Takes: how many numbers a word takes.
  What becomes of a state whose rows are changed one by one.
-/
import Derived.Test.YtdiaiflleiebfaaGreatDoorDO5
import Derived.Test.YtdiaiflleiebfaaGreatDoorDO1
import Derived.Deep.DeepAppendRoom
import Derived.Deep.AppendSrc
import Derived.OwnWalk
import Derived.Deep.Onto
import Derived.Handy
import Derived.Laws.Tables
import Derived.Deep.WholeRow
import Derived.Test.YtdiaiflleiebfaaGreatDoorDO4
import Derived.Test.YtdiaiflleiebfaaGreatDoorDO7
namespace Go.Proofs.YtdiaiflleiebfaaGreatDoor
open Go.RowKit Go

theorem szst_fit (A0 : Option Addr) (n0 c0 : Nat) (A1 : Option Addr) (n1 c1 : Nat) (A2 : Option Addr) (n2 c2 : Nat) (A3 : Option Addr) (n3 c3 : Nat) (A4 : Option Addr) (n4 c4 : Nat) (A5 : Option Addr) (n5 c5 : Nat) (A6 : Option Addr) (n6 c6 : Nat) (a f u left : Int) (hl : -1 ≤ left ∧ left ≤ 1048576) (hs : (n0 : Int) + (n1 : Int) + (n2 : Int) + (n3 : Int) + (n4 : Int) + (n5 : Int) + (n6 : Int) ≤ left) (w : World) :
    Calls Tryz.prog 22 #[.agg #[.slice A0 n0 c0, .slice A1 n1 c1, .int .i32 a, .slice A2 n2 c2, .slice A3 n3 c3, .slice A4 n4 c4, .slice A5 n5 c5, .slice A6 n6 c6, .int .i64 f, .int .i64 u], .int .i64 left] w fun e w' => e = .returned (.int .i64 (left - (n0 : Int) - (n1 : Int) - (n2 : Int) - (n3 : Int) - (n4 : Int) - (n5 : Int) - (n6 : Int))) ∧ Below w.heap.size w w' := by
  have h0 : ¬ (left - (n0 : Int) < 0) := by omega
  have h1 : ¬ (left - (n0 : Int) - (n1 : Int) < 0) := by omega
  have h2 : ¬ (left - (n0 : Int) - (n1 : Int) - (n2 : Int) < 0) := by omega
  have h3 : ¬ (left - (n0 : Int) - (n1 : Int) - (n2 : Int) - (n3 : Int) < 0) := by omega
  have h4 : ¬ (left - (n0 : Int) - (n1 : Int) - (n2 : Int) - (n3 : Int) - (n4 : Int) < 0) := by omega
  have h5 : ¬ (left - (n0 : Int) - (n1 : Int) - (n2 : Int) - (n3 : Int) - (n4 : Int) - (n5 : Int) < 0) := by omega
  have h6 : ¬ (left - (n0 : Int) - (n1 : Int) - (n2 : Int) - (n3 : Int) - (n4 : Int) - (n5 : Int) - (n6 : Int) < 0) := by omega
  go_enter Tryz.func22, Tryz.ntmps22
  go_wp2
  go_ret
  exact ⟨rfl, by go_grown⟩
theorem szst_no0 (A0 : Option Addr) (n0 c0 : Nat) (A1 : Option Addr) (n1 c1 : Nat) (A2 : Option Addr) (n2 c2 : Nat) (A3 : Option Addr) (n3 c3 : Nat) (A4 : Option Addr) (n4 c4 : Nat) (A5 : Option Addr) (n5 c5 : Nat) (A6 : Option Addr) (n6 c6 : Nat) (a f u left : Int) (_hl : -1 ≤ left ∧ left ≤ 1048576) (hm : n0 ≤ 9223372036854775807) (hs : left - (n0 : Int) < 0) (w : World) :
    Calls Tryz.prog 22 #[.agg #[.slice A0 n0 c0, .slice A1 n1 c1, .int .i32 a, .slice A2 n2 c2, .slice A3 n3 c3, .slice A4 n4 c4, .slice A5 n5 c5, .slice A6 n6 c6, .int .i64 f, .int .i64 u], .int .i64 left] w fun e w' => e = .returned (.int .i64 (-1)) ∧ Below w.heap.size w w' := by
  go_enter Tryz.func22, Tryz.ntmps22
  go_wp2
  go_ret
  exact ⟨rfl, by go_grown⟩
theorem szst_no1 (A0 : Option Addr) (n0 c0 : Nat) (A1 : Option Addr) (n1 c1 : Nat) (A2 : Option Addr) (n2 c2 : Nat) (A3 : Option Addr) (n3 c3 : Nat) (A4 : Option Addr) (n4 c4 : Nat) (A5 : Option Addr) (n5 c5 : Nat) (A6 : Option Addr) (n6 c6 : Nat) (a f u left : Int) (_hl : -1 ≤ left ∧ left ≤ 1048576) (h0 : ¬ (left - (n0 : Int) < 0)) (hm : n1 ≤ 9223372036854775807) (hs : left - (n0 : Int) - (n1 : Int) < 0) (w : World) :
    Calls Tryz.prog 22 #[.agg #[.slice A0 n0 c0, .slice A1 n1 c1, .int .i32 a, .slice A2 n2 c2, .slice A3 n3 c3, .slice A4 n4 c4, .slice A5 n5 c5, .slice A6 n6 c6, .int .i64 f, .int .i64 u], .int .i64 left] w fun e w' => e = .returned (.int .i64 (-1)) ∧ Below w.heap.size w w' := by
  go_enter Tryz.func22, Tryz.ntmps22
  go_wp2
  go_ret
  exact ⟨rfl, by go_grown⟩
theorem szst_no2 (A0 : Option Addr) (n0 c0 : Nat) (A1 : Option Addr) (n1 c1 : Nat) (A2 : Option Addr) (n2 c2 : Nat) (A3 : Option Addr) (n3 c3 : Nat) (A4 : Option Addr) (n4 c4 : Nat) (A5 : Option Addr) (n5 c5 : Nat) (A6 : Option Addr) (n6 c6 : Nat) (a f u left : Int) (_hl : -1 ≤ left ∧ left ≤ 1048576) (h0 : ¬ (left - (n0 : Int) < 0)) (h1 : ¬ (left - (n0 : Int) - (n1 : Int) < 0)) (hm : n2 ≤ 9223372036854775807) (hs : left - (n0 : Int) - (n1 : Int) - (n2 : Int) < 0) (w : World) :
    Calls Tryz.prog 22 #[.agg #[.slice A0 n0 c0, .slice A1 n1 c1, .int .i32 a, .slice A2 n2 c2, .slice A3 n3 c3, .slice A4 n4 c4, .slice A5 n5 c5, .slice A6 n6 c6, .int .i64 f, .int .i64 u], .int .i64 left] w fun e w' => e = .returned (.int .i64 (-1)) ∧ Below w.heap.size w w' := by
  go_enter Tryz.func22, Tryz.ntmps22
  go_wp2
  go_ret
  exact ⟨rfl, by go_grown⟩
theorem szst_no3 (A0 : Option Addr) (n0 c0 : Nat) (A1 : Option Addr) (n1 c1 : Nat) (A2 : Option Addr) (n2 c2 : Nat) (A3 : Option Addr) (n3 c3 : Nat) (A4 : Option Addr) (n4 c4 : Nat) (A5 : Option Addr) (n5 c5 : Nat) (A6 : Option Addr) (n6 c6 : Nat) (a f u left : Int) (_hl : -1 ≤ left ∧ left ≤ 1048576) (h0 : ¬ (left - (n0 : Int) < 0)) (h1 : ¬ (left - (n0 : Int) - (n1 : Int) < 0)) (h2 : ¬ (left - (n0 : Int) - (n1 : Int) - (n2 : Int) < 0)) (hm : n3 ≤ 9223372036854775807) (hs : left - (n0 : Int) - (n1 : Int) - (n2 : Int) - (n3 : Int) < 0) (w : World) :
    Calls Tryz.prog 22 #[.agg #[.slice A0 n0 c0, .slice A1 n1 c1, .int .i32 a, .slice A2 n2 c2, .slice A3 n3 c3, .slice A4 n4 c4, .slice A5 n5 c5, .slice A6 n6 c6, .int .i64 f, .int .i64 u], .int .i64 left] w fun e w' => e = .returned (.int .i64 (-1)) ∧ Below w.heap.size w w' := by
  go_enter Tryz.func22, Tryz.ntmps22
  go_wp2
  go_ret
  exact ⟨rfl, by go_grown⟩
theorem szst_no4 (A0 : Option Addr) (n0 c0 : Nat) (A1 : Option Addr) (n1 c1 : Nat) (A2 : Option Addr) (n2 c2 : Nat) (A3 : Option Addr) (n3 c3 : Nat) (A4 : Option Addr) (n4 c4 : Nat) (A5 : Option Addr) (n5 c5 : Nat) (A6 : Option Addr) (n6 c6 : Nat) (a f u left : Int) (_hl : -1 ≤ left ∧ left ≤ 1048576) (h0 : ¬ (left - (n0 : Int) < 0)) (h1 : ¬ (left - (n0 : Int) - (n1 : Int) < 0)) (h2 : ¬ (left - (n0 : Int) - (n1 : Int) - (n2 : Int) < 0)) (h3 : ¬ (left - (n0 : Int) - (n1 : Int) - (n2 : Int) - (n3 : Int) < 0)) (hm : n4 ≤ 9223372036854775807) (hs : left - (n0 : Int) - (n1 : Int) - (n2 : Int) - (n3 : Int) - (n4 : Int) < 0) (w : World) :
    Calls Tryz.prog 22 #[.agg #[.slice A0 n0 c0, .slice A1 n1 c1, .int .i32 a, .slice A2 n2 c2, .slice A3 n3 c3, .slice A4 n4 c4, .slice A5 n5 c5, .slice A6 n6 c6, .int .i64 f, .int .i64 u], .int .i64 left] w fun e w' => e = .returned (.int .i64 (-1)) ∧ Below w.heap.size w w' := by
  go_enter Tryz.func22, Tryz.ntmps22
  go_wp2
  go_ret
  exact ⟨rfl, by go_grown⟩
theorem szst_no5 (A0 : Option Addr) (n0 c0 : Nat) (A1 : Option Addr) (n1 c1 : Nat) (A2 : Option Addr) (n2 c2 : Nat) (A3 : Option Addr) (n3 c3 : Nat) (A4 : Option Addr) (n4 c4 : Nat) (A5 : Option Addr) (n5 c5 : Nat) (A6 : Option Addr) (n6 c6 : Nat) (a f u left : Int) (_hl : -1 ≤ left ∧ left ≤ 1048576) (h0 : ¬ (left - (n0 : Int) < 0)) (h1 : ¬ (left - (n0 : Int) - (n1 : Int) < 0)) (h2 : ¬ (left - (n0 : Int) - (n1 : Int) - (n2 : Int) < 0)) (h3 : ¬ (left - (n0 : Int) - (n1 : Int) - (n2 : Int) - (n3 : Int) < 0)) (h4 : ¬ (left - (n0 : Int) - (n1 : Int) - (n2 : Int) - (n3 : Int) - (n4 : Int) < 0)) (hm : n5 ≤ 9223372036854775807) (hs : left - (n0 : Int) - (n1 : Int) - (n2 : Int) - (n3 : Int) - (n4 : Int) - (n5 : Int) < 0) (w : World) :
    Calls Tryz.prog 22 #[.agg #[.slice A0 n0 c0, .slice A1 n1 c1, .int .i32 a, .slice A2 n2 c2, .slice A3 n3 c3, .slice A4 n4 c4, .slice A5 n5 c5, .slice A6 n6 c6, .int .i64 f, .int .i64 u], .int .i64 left] w fun e w' => e = .returned (.int .i64 (-1)) ∧ Below w.heap.size w w' := by
  go_enter Tryz.func22, Tryz.ntmps22
  go_wp2
  go_ret
  exact ⟨rfl, by go_grown⟩
theorem szst_no6 (A0 : Option Addr) (n0 c0 : Nat) (A1 : Option Addr) (n1 c1 : Nat) (A2 : Option Addr) (n2 c2 : Nat) (A3 : Option Addr) (n3 c3 : Nat) (A4 : Option Addr) (n4 c4 : Nat) (A5 : Option Addr) (n5 c5 : Nat) (A6 : Option Addr) (n6 c6 : Nat) (a f u left : Int) (_hl : -1 ≤ left ∧ left ≤ 1048576) (h0 : ¬ (left - (n0 : Int) < 0)) (h1 : ¬ (left - (n0 : Int) - (n1 : Int) < 0)) (h2 : ¬ (left - (n0 : Int) - (n1 : Int) - (n2 : Int) < 0)) (h3 : ¬ (left - (n0 : Int) - (n1 : Int) - (n2 : Int) - (n3 : Int) < 0)) (h4 : ¬ (left - (n0 : Int) - (n1 : Int) - (n2 : Int) - (n3 : Int) - (n4 : Int) < 0)) (h5 : ¬ (left - (n0 : Int) - (n1 : Int) - (n2 : Int) - (n3 : Int) - (n4 : Int) - (n5 : Int) < 0)) (hm : n6 ≤ 9223372036854775807) (hs : left - (n0 : Int) - (n1 : Int) - (n2 : Int) - (n3 : Int) - (n4 : Int) - (n5 : Int) - (n6 : Int) < 0) (w : World) :
    Calls Tryz.prog 22 #[.agg #[.slice A0 n0 c0, .slice A1 n1 c1, .int .i32 a, .slice A2 n2 c2, .slice A3 n3 c3, .slice A4 n4 c4, .slice A5 n5 c5, .slice A6 n6 c6, .int .i64 f, .int .i64 u], .int .i64 left] w fun e w' => e = .returned (.int .i64 (-1)) ∧ Below w.heap.size w w' := by
  go_enter Tryz.func22, Tryz.ntmps22
  go_wp2
  go_ret
  exact ⟨rfl, by go_grown⟩
end Go.Proofs.YtdiaiflleiebfaaGreatDoor

namespace Go.Proofs.YtdiaiflleiebfaaGreatDoor
open Go.RowKit Go

theorem szst_no (A0 : Option Addr) (n0 c0 : Nat) (A1 : Option Addr) (n1 c1 : Nat) (A2 : Option Addr) (n2 c2 : Nat) (A3 : Option Addr) (n3 c3 : Nat) (A4 : Option Addr) (n4 c4 : Nat) (A5 : Option Addr) (n5 c5 : Nat) (A6 : Option Addr) (n6 c6 : Nat) (a f u left : Int) (hl : -1 ≤ left ∧ left ≤ 1048576) (h0 : n0 ≤ 9223372036854775807 ∧ n1 ≤ 9223372036854775807 ∧ n2 ≤ 9223372036854775807 ∧ n3 ≤ 9223372036854775807 ∧ n4 ≤ 9223372036854775807 ∧ n5 ≤ 9223372036854775807 ∧ n6 ≤ 9223372036854775807) (hs : left < (n0 : Int) + (n1 : Int) + (n2 : Int) + (n3 : Int) + (n4 : Int) + (n5 : Int) + (n6 : Int)) (w : World) :
    Calls Tryz.prog 22 #[.agg #[.slice A0 n0 c0, .slice A1 n1 c1, .int .i32 a, .slice A2 n2 c2, .slice A3 n3 c3, .slice A4 n4 c4, .slice A5 n5 c5, .slice A6 n6 c6, .int .i64 f, .int .i64 u], .int .i64 left] w fun e w' => e = .returned (.int .i64 (-1)) ∧ Below w.heap.size w w' := by
  obtain ⟨h0, h1, h2, h3, h4, h5, h6⟩ := h0
  by_cases g0 : left - (n0 : Int) < 0
  · exact szst_no0 A0 n0 c0 A1 n1 c1 A2 n2 c2 A3 n3 c3 A4 n4 c4 A5 n5 c5 A6 n6 c6 a f u left hl h0 g0 w
  by_cases g1 : left - (n0 : Int) - (n1 : Int) < 0
  · exact szst_no1 A0 n0 c0 A1 n1 c1 A2 n2 c2 A3 n3 c3 A4 n4 c4 A5 n5 c5 A6 n6 c6 a f u left hl g0 h1 g1 w
  by_cases g2 : left - (n0 : Int) - (n1 : Int) - (n2 : Int) < 0
  · exact szst_no2 A0 n0 c0 A1 n1 c1 A2 n2 c2 A3 n3 c3 A4 n4 c4 A5 n5 c5 A6 n6 c6 a f u left hl g0 g1 h2 g2 w
  by_cases g3 : left - (n0 : Int) - (n1 : Int) - (n2 : Int) - (n3 : Int) < 0
  · exact szst_no3 A0 n0 c0 A1 n1 c1 A2 n2 c2 A3 n3 c3 A4 n4 c4 A5 n5 c5 A6 n6 c6 a f u left hl g0 g1 g2 h3 g3 w
  by_cases g4 : left - (n0 : Int) - (n1 : Int) - (n2 : Int) - (n3 : Int) - (n4 : Int) < 0
  · exact szst_no4 A0 n0 c0 A1 n1 c1 A2 n2 c2 A3 n3 c3 A4 n4 c4 A5 n5 c5 A6 n6 c6 a f u left hl g0 g1 g2 g3 h4 g4 w
  by_cases g5 : left - (n0 : Int) - (n1 : Int) - (n2 : Int) - (n3 : Int) - (n4 : Int) - (n5 : Int) < 0
  · exact szst_no5 A0 n0 c0 A1 n1 c1 A2 n2 c2 A3 n3 c3 A4 n4 c4 A5 n5 c5 A6 n6 c6 a f u left hl g0 g1 g2 g3 g4 h5 g5 w
  exact szst_no6 A0 n0 c0 A1 n1 c1 A2 n2 c2 A3 n3 c3 A4 n4 c4 A5 n5 c5 A6 n6 c6 a f u left hl g0 g1 g2 g3 g4 g5 h6 (by omega) w
end Go.Proofs.YtdiaiflleiebfaaGreatDoor

namespace Go.Proofs.YtdiaiflleiebfaaGreatDoor
open Go.RowKit Go

/-- A goal at which the walk stands still. -/
def Stop (P : Prop) : Prop := P
theorem unstop {P : Prop} (h : Stop P) : P := h
theorem Stop.go {P : Prop} (h : P) : Stop P := h
/-- A list from which one appends: nil or an address with its cells. -/
def SrcAt (w : World) (size : Nat) (u : Value) (m : Nat) (ys : List Value) : Prop :=
  ∃ (A : Option Addr) (c : Nat), u = .slice A m c ∧ ys.length = m * size ∧ (A = none → m = 0) ∧ ∀ a, A = some a → ∀ j x, ys[j]? = some x → w.cell? (a.add j) = some x
/-- Where the result of an append lies: in the row itself, which has room, or in new memory. -/
def AppAlt (w w' : World) (v v' : Value) (n m : Nat) : Prop :=
  (∃ g cap, v = .slice (some ⟨g, 0, none⟩) n cap ∧ n + m ≤ cap ∧ v' = .slice (some ⟨g, 0, none⟩) (n + m) cap ∧ w.grownBy w' (some g)) ∨ (Below w.heap.size w w' ∧ ∀ k, v'.ownBlock = some k → w.heap.size ≤ k)
theorem AppAlt.grown {w w' : World} {v v' : Value} {n m : Nat} (h : AppAlt w w' v v' n m) : w.grownBy w' v.ownBlock := by
  rcases h with ⟨g, cap, rfl, -, -, h⟩ | ⟨h, -⟩
  · exact h
  · exact only_of_below h _
section
variable {P : Program} {w : World}
theorem run_append_nil_src (base : Nat) (t ty e : TypeId) (i : TypeInfo) (size : Nat) (ht : P.underlying t = some (.slice e)) (hi : P.info? e = some i)
    (v : Value) (n : Nat) (xs : List Value) (hown : w.ownsRow base e size v n xs) (c : Nat) : (Builtin.append_ #[t, t] ty #[v, .slice none 0 c]).run P w = .ok v w := by
  rcases hown.2 with ⟨rfl, rfl⟩ | ⟨g, cap, cur, rfl, _, _, hnc, _⟩
  · simp [Builtin.append_, run_underlying ht, sizeOf, typeInfo, hi, Builtin.lenOf, Builtin.firstCells]
  · simp [Builtin.append_, run_underlying ht, sizeOf, typeInfo, hi, Builtin.lenOf, Builtin.firstCells, hnc, storeCells]
theorem run_append_alt (base : Nat) (t ty e : TypeId) (i : TypeInfo) (z : Value) (size bytes : Nat) (ht : P.underlying t = some (.slice e)) (hi : P.info? e = some i) (hz : i.zero = some z)
    (hsize : i.size = size) (hby : i.bytes = bytes) (hzs : z.cells.size = size) (hsz : 0 < size)
    (v : Value) (n : Nat) (xs : List Value) (hown : w.ownsRow base e size v n xs)
    (u : Value) (m : Nat) (ys : List Value) (hsrc : SrcAt w size u m ys) (h1 : ∀ x ∈ ys, x.oneCell' = true)
    (h63 : n + m ≤ maxLen) (hbytes : (n + m) * bytes ≤ 140737488355328) (hbase : base ≤ w.heap.size) :
    ∃ v' w', (Builtin.append_ #[t, t] ty #[v, u]).run P w = .ok v' w' ∧ w'.ownsRow base e size v' (n + m) (xs ++ ys) ∧ AppAlt w w' v v' n m := by
  obtain ⟨A, c, rfl, hl, hnone, hcells⟩ := hsrc
  cases A with
  | none =>
    obtain rfl := hnone rfl
    have hys : ys = [] := List.eq_nil_of_length_eq_zero (by simpa using hl)
    subst hys
    refine ⟨v, w, run_append_nil_src base t ty e i size ht hi v n xs hown c, by simpa using hown, ?_⟩
    rcases hown.2 with ⟨rfl, -⟩ | ⟨g, cap, cur, rfl, -, -, hnc, -⟩
    · exact .inr ⟨Below.refl _ _, fun k hk => by simp [Value.ownBlock] at hk⟩
    · exact .inl ⟨g, cap, rfl, by omega, rfl, World.grownBy.refl _ _⟩
  | some a =>
    have hnews := hcells a rfl
    rcases hown.2 with ⟨rfl, hn0⟩ | ⟨g, cap, cur, rfl, hbg, hg, hnc, hcm, hcs, htake⟩
    · have hown2 : w.ownsRow w.heap.size e size (.slice none 0 0) n xs := by
        subst hn0
        have hx : xs = [] := List.eq_nil_of_length_eq_zero (by simpa using hown.1)
        rw [hx]
        exact World.ownsRow_nil _ _ _ _
      obtain ⟨v', w', hr, ho, hgr, -⟩ := run_append_own (P := P) w w.heap.size t ty e i z size bytes ht hi hz hsize hby hzs hsz _ n xs hown2 a m c ys hl hnews h1 h63 hbytes (Nat.le_refl _)
      exact ⟨v', w', hr, ho.mono hbase, .inr ⟨(Below.refl _ _).grown hgr (Nat.le_refl _) (fun k hk => by simp [Value.ownBlock] at hk), fun k hk => (World.ownsRow.lt ho k hk).1⟩⟩
    · by_cases hroom : n + m ≤ cap
      · obtain ⟨w', hr, ho, hgr⟩ := run_append_own_spare (P := P) w base t ty e i size ht hi hsize g n cap xs hown a m c ys hl hnews h1 hroom
        exact ⟨_, w', hr, ho, .inl ⟨g, cap, rfl, hroom, rfl, hgr⟩⟩
      · subst hsize
        subst hby
        have hsmall : n + m ≤ 9223372036854775807 := by simp only [maxLen] at h63; omega
        have holds : ∀ j u, xs[j]? = some u → w.cell? ((⟨g, 0, none⟩ : Addr).add j) = some u := World.ownsRow.cells hown (g := g) rfl
        have hr := run_append_grow (P := P) w t ty e i z ht hi hz ⟨g, 0, none⟩ n cap xs hown.1 holds a m c ys hl hnews (by omega) (by omega) (growslice_fits (by omega) hbytes)
        have hlen : (xs ++ ys).length = (n + m) * i.size := by rw [List.length_append, hown.1, hl, Nat.add_mul]
        refine ⟨_, _, hr, ⟨hlen, .inr ⟨w.heap.size, _, _, rfl, hbase, heap_alloc_new w.drew _, grownCap_ge w (n + m) cap e, grownCap_le_maxLen w (n + m) cap e h63, ?_, ?_⟩⟩, .inr ⟨⟨rfl, rfl, rfl, by simp, fun k hk => Below.heap_alloc w.drew _ k hk⟩, fun k hk => by simp [Value.ownBlock] at hk; omega⟩⟩
        · have h2 := grownCap_ge w (n + m) cap e
          simp only [Array.size_append, List.size_toArray, size_zeroCells, hzs, hown.1, hl, ← Nat.add_mul]
          congr 1
          omega
        · rw [Array.toList_append, Array.toList_append, ← hlen]
          exact List.take_left
theorem wpList_append_src {ops : Array Oper} {rest : List Oper} {o : Oper} {a : Act} {Q : Exit → Act → World → Prop} (hgd : o.guard = none) (s x : Operand) (t : TypeId)
    (ho : o.op = .call { callee := .builtin .append, args := #[s, x], argTypes := #[t, t] })
    (base : Nat) (e : TypeId) (i : TypeInfo) (z : Value) (size bytes : Nat) (ht : P.underlying t = some (.slice e)) (hi : P.info? e = some i) (hz : i.zero = some z)
    (hsize : i.size = size) (hby : i.bytes = bytes) (hzs : z.cells.size = size) (hsz : 0 < size)
    (v : Value) (n : Nat) (xs : List Value) (hs : a.eval s = v) (hown : w.ownsRow base e size v n xs)
    (u : Value) (m : Nat) (ys : List Value) (hx : a.eval x = u) (hsrc : SrcAt w size u m ys) (h1 : ∀ x ∈ ys, x.oneCell' = true)
    (h63 : n + m ≤ maxLen) (hbytes : (n + m) * bytes ≤ 140737488355328) (hbase : base ≤ w.heap.size)
    (h : ∀ v' w', w'.ownsRow base e size v' (n + m) (xs ++ ys) → Hid (AppAlt w w' v v' n m) → wpList P ops Q rest (a.put o.dst v') w') : wpList P ops Q (o :: rest) a w := by
  refine wpList_plain hgd fun K hK => ?_
  obtain ⟨v', w', hrun, h2, h3⟩ := run_append_alt (P := P) base t o.type e i z size bytes ht hi hz hsize hby hzs hsz v n xs hown u m ys hsrc h1 h63 hbytes hbase
  unfold Oper.wp
  simp [execOp, ho, resolve, invoke, builtin, hs, hx, hrun, Result.andThen]
  exact hK _ _ (h v' w' h2 h3)
end
end Go.Proofs.YtdiaiflleiebfaaGreatDoor

namespace Go.Proofs.YtdiaiflleiebfaaGreatDoor
open Go.RowKit Go

/-- The names of the built-in words. -/
def primNames : List ByteArray := [⟨#[100, 117, 112]⟩, ⟨#[100, 114, 111, 112]⟩, ⟨#[111, 118, 101, 114]⟩, ⟨#[110, 105, 112]⟩, ⟨#[115, 119, 97, 112]⟩, ⟨#[43]⟩, ⟨#[45]⟩, ⟨#[42]⟩, ⟨#[97, 110, 100]⟩, ⟨#[111, 114]⟩, ⟨#[50, 42]⟩, ⟨#[50, 47]⟩, ⟨#[47, 109, 111, 100]⟩, ⟨#[64]⟩, ⟨#[33]⟩, ⟨#[97]⟩, ⟨#[97, 33]⟩, ⟨#[101, 109, 105, 116]⟩, ⟨#[107, 101, 121]⟩, ⟨#[112, 117, 115, 104]⟩, ⟨#[112, 111, 112]⟩, ⟨#[105]⟩, ⟨#[46]⟩, ⟨#[110, 111, 112]⟩]
/-- The table's cells: for each word its name, how many numbers it takes, its function. -/
def primCells : Array Value := #[.string ⟨#[100, 117, 112]⟩, .int .i64 1, .func (.func 114) #[] #[], .string ⟨#[100, 114, 111, 112]⟩, .int .i64 1, .func (.func 115) #[] #[], .string ⟨#[111, 118, 101, 114]⟩, .int .i64 2, .func (.func 116) #[] #[], .string ⟨#[110, 105, 112]⟩, .int .i64 2, .func (.func 117) #[] #[], .string ⟨#[115, 119, 97, 112]⟩, .int .i64 2, .func (.func 118) #[] #[], .string ⟨#[43]⟩, .int .i64 2, .func (.func 119) #[] #[], .string ⟨#[45]⟩, .int .i64 1, .func (.func 120) #[] #[], .string ⟨#[42]⟩, .int .i64 2, .func (.func 121) #[] #[], .string ⟨#[97, 110, 100]⟩, .int .i64 2, .func (.func 122) #[] #[], .string ⟨#[111, 114]⟩, .int .i64 2, .func (.func 123) #[] #[], .string ⟨#[50, 42]⟩, .int .i64 1, .func (.func 124) #[] #[], .string ⟨#[50, 47]⟩, .int .i64 1, .func (.func 125) #[] #[], .string ⟨#[47, 109, 111, 100]⟩, .int .i64 2, .func (.func 126) #[] #[], .string ⟨#[64]⟩, .int .i64 1, .func (.func 127) #[] #[], .string ⟨#[33]⟩, .int .i64 2, .func (.func 128) #[] #[], .string ⟨#[97]⟩, .int .i64 0, .func (.func 129) #[] #[], .string ⟨#[97, 33]⟩, .int .i64 1, .func (.func 130) #[] #[], .string ⟨#[101, 109, 105, 116]⟩, .int .i64 1, .func (.func 131) #[] #[], .string ⟨#[107, 101, 121]⟩, .int .i64 0, .func (.func 132) #[] #[], .string ⟨#[112, 117, 115, 104]⟩, .int .i64 1, .func (.func 133) #[] #[], .string ⟨#[112, 111, 112]⟩, .int .i64 0, .func (.func 134) #[] #[], .string ⟨#[105]⟩, .int .i64 0, .func (.func 135) #[] #[], .string ⟨#[46]⟩, .int .i64 1, .func (.func 136) #[] #[], .string ⟨#[110, 111, 112]⟩, .int .i64 0, .func (.func 137) #[] #[]]
theorem primCells_info : (Tryz.prog.info? 82).map (·.size) = some primCells.size := by kernel_rfl
theorem primCells_one : primCells.all (·.oneCell') = true := by kernel_rfl
theorem prim_u : Tryz.prog.underlying 82 = some (.array 24 81) := by kernel_rfl
set_option maxRecDepth 100000 in
set_option maxHeartbeats 4000000 in
theorem builtins_any (w : World) : Calls Tryz.prog 55 #[] w fun e w' => e = .returned (.agg primCells) ∧ Below w.heap.size w w' := by
  go_enter Tryz.func55, Tryz.ntmps55
  go_wp2_with (with_reducible refine wpList_build rfl 82 _ rfl (by kernel_rfl) ?_; refine wpList_store_row rfl 82 _ _ rfl w.heap.size primCells rfl (by kernel_rfl) 82 _ (heap_alloc_last w _) primCells_info (by kernel_rfl) primCells_one ?_; refine unstop ?_)
  refine Stop.go ?_
  rw [World.setRow_alloc_new]
  go_wp2_with fail
  exact bodyPost_ret (v := .agg primCells) (results_cell_row rfl _ _ w.heap.size 82 primCells (0, 0) _ rfl (heap_alloc_last w _) prim_u rfl primCells_info) rfl ⟨rfl, (Below.refl _ _).alloc (Nat.le_refl _) _⟩
/-- What stands in the table at a word's number. -/
def primCell (k : Nat) : Array Value := #[primCells.getD (3 * k) (.int .i64 0), primCells.getD (3 * k + 1) (.int .i64 0), primCells.getD (3 * k + 2) (.int .i64 0)]
theorem prim_index_0 (W : World) : (Instr.index 82 (.agg primCells) (.int .i64 0)).run Tryz.prog W = .ok (.agg (primCell 0)) W := by kernel_rfl
theorem prim_index_1 (W : World) : (Instr.index 82 (.agg primCells) (.int .i64 1)).run Tryz.prog W = .ok (.agg (primCell 1)) W := by kernel_rfl
theorem prim_index_2 (W : World) : (Instr.index 82 (.agg primCells) (.int .i64 2)).run Tryz.prog W = .ok (.agg (primCell 2)) W := by kernel_rfl
theorem prim_index_3 (W : World) : (Instr.index 82 (.agg primCells) (.int .i64 3)).run Tryz.prog W = .ok (.agg (primCell 3)) W := by kernel_rfl
theorem prim_index_4 (W : World) : (Instr.index 82 (.agg primCells) (.int .i64 4)).run Tryz.prog W = .ok (.agg (primCell 4)) W := by kernel_rfl
theorem prim_index_5 (W : World) : (Instr.index 82 (.agg primCells) (.int .i64 5)).run Tryz.prog W = .ok (.agg (primCell 5)) W := by kernel_rfl
theorem prim_index_6 (W : World) : (Instr.index 82 (.agg primCells) (.int .i64 6)).run Tryz.prog W = .ok (.agg (primCell 6)) W := by kernel_rfl
theorem prim_index_7 (W : World) : (Instr.index 82 (.agg primCells) (.int .i64 7)).run Tryz.prog W = .ok (.agg (primCell 7)) W := by kernel_rfl
theorem prim_index_8 (W : World) : (Instr.index 82 (.agg primCells) (.int .i64 8)).run Tryz.prog W = .ok (.agg (primCell 8)) W := by kernel_rfl
theorem prim_index_9 (W : World) : (Instr.index 82 (.agg primCells) (.int .i64 9)).run Tryz.prog W = .ok (.agg (primCell 9)) W := by kernel_rfl
theorem prim_index_10 (W : World) : (Instr.index 82 (.agg primCells) (.int .i64 10)).run Tryz.prog W = .ok (.agg (primCell 10)) W := by kernel_rfl
theorem prim_index_11 (W : World) : (Instr.index 82 (.agg primCells) (.int .i64 11)).run Tryz.prog W = .ok (.agg (primCell 11)) W := by kernel_rfl
theorem prim_index_12 (W : World) : (Instr.index 82 (.agg primCells) (.int .i64 12)).run Tryz.prog W = .ok (.agg (primCell 12)) W := by kernel_rfl
theorem prim_index_13 (W : World) : (Instr.index 82 (.agg primCells) (.int .i64 13)).run Tryz.prog W = .ok (.agg (primCell 13)) W := by kernel_rfl
theorem prim_index_14 (W : World) : (Instr.index 82 (.agg primCells) (.int .i64 14)).run Tryz.prog W = .ok (.agg (primCell 14)) W := by kernel_rfl
theorem prim_index_15 (W : World) : (Instr.index 82 (.agg primCells) (.int .i64 15)).run Tryz.prog W = .ok (.agg (primCell 15)) W := by kernel_rfl
theorem prim_index_16 (W : World) : (Instr.index 82 (.agg primCells) (.int .i64 16)).run Tryz.prog W = .ok (.agg (primCell 16)) W := by kernel_rfl
theorem prim_index_17 (W : World) : (Instr.index 82 (.agg primCells) (.int .i64 17)).run Tryz.prog W = .ok (.agg (primCell 17)) W := by kernel_rfl
theorem prim_index_18 (W : World) : (Instr.index 82 (.agg primCells) (.int .i64 18)).run Tryz.prog W = .ok (.agg (primCell 18)) W := by kernel_rfl
theorem prim_index_19 (W : World) : (Instr.index 82 (.agg primCells) (.int .i64 19)).run Tryz.prog W = .ok (.agg (primCell 19)) W := by kernel_rfl
theorem prim_index_20 (W : World) : (Instr.index 82 (.agg primCells) (.int .i64 20)).run Tryz.prog W = .ok (.agg (primCell 20)) W := by kernel_rfl
theorem prim_index_21 (W : World) : (Instr.index 82 (.agg primCells) (.int .i64 21)).run Tryz.prog W = .ok (.agg (primCell 21)) W := by kernel_rfl
theorem prim_index_22 (W : World) : (Instr.index 82 (.agg primCells) (.int .i64 22)).run Tryz.prog W = .ok (.agg (primCell 22)) W := by kernel_rfl
theorem prim_index_23 (W : World) : (Instr.index 82 (.agg primCells) (.int .i64 23)).run Tryz.prog W = .ok (.agg (primCell 23)) W := by kernel_rfl
theorem prim_index (k : Nat) (hk : k < 24) (W : World) : (Instr.index 82 (.agg primCells) (.int .i64 (k : Int))).run Tryz.prog W = .ok (.agg (primCell k)) W := by
  match k, hk with
  | 0, _ => exact prim_index_0 W
  | 1, _ => exact prim_index_1 W
  | 2, _ => exact prim_index_2 W
  | 3, _ => exact prim_index_3 W
  | 4, _ => exact prim_index_4 W
  | 5, _ => exact prim_index_5 W
  | 6, _ => exact prim_index_6 W
  | 7, _ => exact prim_index_7 W
  | 8, _ => exact prim_index_8 W
  | 9, _ => exact prim_index_9 W
  | 10, _ => exact prim_index_10 W
  | 11, _ => exact prim_index_11 W
  | 12, _ => exact prim_index_12 W
  | 13, _ => exact prim_index_13 W
  | 14, _ => exact prim_index_14 W
  | 15, _ => exact prim_index_15 W
  | 16, _ => exact prim_index_16 W
  | 17, _ => exact prim_index_17 W
  | 18, _ => exact prim_index_18 W
  | 19, _ => exact prim_index_19 W
  | 20, _ => exact prim_index_20 W
  | 21, _ => exact prim_index_21 W
  | 22, _ => exact prim_index_22 W
  | 23, _ => exact prim_index_23 W
  | k + 24, h => omega
theorem prim_name (k : Nat) (hk : k < 24) : ∃ t f, primCell k = #[.string (primNames.getD k ⟨#[]⟩), .int .i64 t, f] := by
  match k, hk with
  | 0, _ => exact ⟨_, _, rfl⟩
  | 1, _ => exact ⟨_, _, rfl⟩
  | 2, _ => exact ⟨_, _, rfl⟩
  | 3, _ => exact ⟨_, _, rfl⟩
  | 4, _ => exact ⟨_, _, rfl⟩
  | 5, _ => exact ⟨_, _, rfl⟩
  | 6, _ => exact ⟨_, _, rfl⟩
  | 7, _ => exact ⟨_, _, rfl⟩
  | 8, _ => exact ⟨_, _, rfl⟩
  | 9, _ => exact ⟨_, _, rfl⟩
  | 10, _ => exact ⟨_, _, rfl⟩
  | 11, _ => exact ⟨_, _, rfl⟩
  | 12, _ => exact ⟨_, _, rfl⟩
  | 13, _ => exact ⟨_, _, rfl⟩
  | 14, _ => exact ⟨_, _, rfl⟩
  | 15, _ => exact ⟨_, _, rfl⟩
  | 16, _ => exact ⟨_, _, rfl⟩
  | 17, _ => exact ⟨_, _, rfl⟩
  | 18, _ => exact ⟨_, _, rfl⟩
  | 19, _ => exact ⟨_, _, rfl⟩
  | 20, _ => exact ⟨_, _, rfl⟩
  | 21, _ => exact ⟨_, _, rfl⟩
  | 22, _ => exact ⟨_, _, rfl⟩
  | 23, _ => exact ⟨_, _, rfl⟩
  | k + 24, h => omega
end Go.Proofs.YtdiaiflleiebfaaGreatDoor

namespace Go.Proofs.YtdiaiflleiebfaaGreatDoor
open Go.RowKit Go

set_option maxRecDepth 10000 in
theorem takes_0 (w : World) : Calls Tryz.prog 40 #[.string ⟨#[100, 117, 112]⟩] w fun e w' => e = .returned (.int .i64 1) ∧ w = w' := by
  go_enter Tryz.func40, Tryz.ntmps40
  go_wp2
  go_ret
  exact ⟨rfl, rfl⟩
set_option maxRecDepth 10000 in
theorem takes_1 (w : World) : Calls Tryz.prog 40 #[.string ⟨#[100, 114, 111, 112]⟩] w fun e w' => e = .returned (.int .i64 1) ∧ w = w' := by
  go_enter Tryz.func40, Tryz.ntmps40
  go_wp2
  go_ret
  exact ⟨rfl, rfl⟩
set_option maxRecDepth 10000 in
theorem takes_2 (w : World) : Calls Tryz.prog 40 #[.string ⟨#[111, 118, 101, 114]⟩] w fun e w' => e = .returned (.int .i64 2) ∧ w = w' := by
  go_enter Tryz.func40, Tryz.ntmps40
  go_wp2
  go_ret
  exact ⟨rfl, rfl⟩
set_option maxRecDepth 10000 in
theorem takes_3 (w : World) : Calls Tryz.prog 40 #[.string ⟨#[110, 105, 112]⟩] w fun e w' => e = .returned (.int .i64 2) ∧ w = w' := by
  go_enter Tryz.func40, Tryz.ntmps40
  go_wp2
  go_ret
  exact ⟨rfl, rfl⟩
set_option maxRecDepth 10000 in
theorem takes_4 (w : World) : Calls Tryz.prog 40 #[.string ⟨#[115, 119, 97, 112]⟩] w fun e w' => e = .returned (.int .i64 2) ∧ w = w' := by
  go_enter Tryz.func40, Tryz.ntmps40
  go_wp2
  go_ret
  exact ⟨rfl, rfl⟩
set_option maxRecDepth 10000 in
theorem takes_5 (w : World) : Calls Tryz.prog 40 #[.string ⟨#[43]⟩] w fun e w' => e = .returned (.int .i64 2) ∧ w = w' := by
  go_enter Tryz.func40, Tryz.ntmps40
  go_wp2
  go_ret
  exact ⟨rfl, rfl⟩
set_option maxRecDepth 10000 in
theorem takes_6 (w : World) : Calls Tryz.prog 40 #[.string ⟨#[45]⟩] w fun e w' => e = .returned (.int .i64 1) ∧ w = w' := by
  go_enter Tryz.func40, Tryz.ntmps40
  go_wp2
  go_ret
  exact ⟨rfl, rfl⟩
set_option maxRecDepth 10000 in
theorem takes_7 (w : World) : Calls Tryz.prog 40 #[.string ⟨#[42]⟩] w fun e w' => e = .returned (.int .i64 2) ∧ w = w' := by
  go_enter Tryz.func40, Tryz.ntmps40
  go_wp2
  go_ret
  exact ⟨rfl, rfl⟩
set_option maxRecDepth 10000 in
theorem takes_8 (w : World) : Calls Tryz.prog 40 #[.string ⟨#[97, 110, 100]⟩] w fun e w' => e = .returned (.int .i64 2) ∧ w = w' := by
  go_enter Tryz.func40, Tryz.ntmps40
  go_wp2
  go_ret
  exact ⟨rfl, rfl⟩
set_option maxRecDepth 10000 in
theorem takes_9 (w : World) : Calls Tryz.prog 40 #[.string ⟨#[111, 114]⟩] w fun e w' => e = .returned (.int .i64 2) ∧ w = w' := by
  go_enter Tryz.func40, Tryz.ntmps40
  go_wp2
  go_ret
  exact ⟨rfl, rfl⟩
set_option maxRecDepth 10000 in
theorem takes_10 (w : World) : Calls Tryz.prog 40 #[.string ⟨#[50, 42]⟩] w fun e w' => e = .returned (.int .i64 1) ∧ w = w' := by
  go_enter Tryz.func40, Tryz.ntmps40
  go_wp2
  go_ret
  exact ⟨rfl, rfl⟩
set_option maxRecDepth 10000 in
theorem takes_11 (w : World) : Calls Tryz.prog 40 #[.string ⟨#[50, 47]⟩] w fun e w' => e = .returned (.int .i64 1) ∧ w = w' := by
  go_enter Tryz.func40, Tryz.ntmps40
  go_wp2
  go_ret
  exact ⟨rfl, rfl⟩
set_option maxRecDepth 10000 in
theorem takes_12 (w : World) : Calls Tryz.prog 40 #[.string ⟨#[47, 109, 111, 100]⟩] w fun e w' => e = .returned (.int .i64 2) ∧ w = w' := by
  go_enter Tryz.func40, Tryz.ntmps40
  go_wp2
  go_ret
  exact ⟨rfl, rfl⟩
set_option maxRecDepth 10000 in
theorem takes_13 (w : World) : Calls Tryz.prog 40 #[.string ⟨#[64]⟩] w fun e w' => e = .returned (.int .i64 1) ∧ w = w' := by
  go_enter Tryz.func40, Tryz.ntmps40
  go_wp2
  go_ret
  exact ⟨rfl, rfl⟩
set_option maxRecDepth 10000 in
theorem takes_14 (w : World) : Calls Tryz.prog 40 #[.string ⟨#[33]⟩] w fun e w' => e = .returned (.int .i64 2) ∧ w = w' := by
  go_enter Tryz.func40, Tryz.ntmps40
  go_wp2
  go_ret
  exact ⟨rfl, rfl⟩
set_option maxRecDepth 10000 in
theorem takes_15 (w : World) : Calls Tryz.prog 40 #[.string ⟨#[97]⟩] w fun e w' => e = .returned (.int .i64 0) ∧ w = w' := by
  go_enter Tryz.func40, Tryz.ntmps40
  go_wp2
  go_ret
  exact ⟨rfl, rfl⟩
set_option maxRecDepth 10000 in
theorem takes_16 (w : World) : Calls Tryz.prog 40 #[.string ⟨#[97, 33]⟩] w fun e w' => e = .returned (.int .i64 1) ∧ w = w' := by
  go_enter Tryz.func40, Tryz.ntmps40
  go_wp2
  go_ret
  exact ⟨rfl, rfl⟩
set_option maxRecDepth 10000 in
theorem takes_17 (w : World) : Calls Tryz.prog 40 #[.string ⟨#[101, 109, 105, 116]⟩] w fun e w' => e = .returned (.int .i64 1) ∧ w = w' := by
  go_enter Tryz.func40, Tryz.ntmps40
  go_wp2
  go_ret
  exact ⟨rfl, rfl⟩
set_option maxRecDepth 10000 in
theorem takes_18 (w : World) : Calls Tryz.prog 40 #[.string ⟨#[107, 101, 121]⟩] w fun e w' => e = .returned (.int .i64 0) ∧ w = w' := by
  go_enter Tryz.func40, Tryz.ntmps40
  go_wp2
  go_ret
  exact ⟨rfl, rfl⟩
set_option maxRecDepth 10000 in
theorem takes_19 (w : World) : Calls Tryz.prog 40 #[.string ⟨#[112, 117, 115, 104]⟩] w fun e w' => e = .returned (.int .i64 1) ∧ w = w' := by
  go_enter Tryz.func40, Tryz.ntmps40
  go_wp2
  go_ret
  exact ⟨rfl, rfl⟩
set_option maxRecDepth 10000 in
theorem takes_20 (w : World) : Calls Tryz.prog 40 #[.string ⟨#[112, 111, 112]⟩] w fun e w' => e = .returned (.int .i64 0) ∧ w = w' := by
  go_enter Tryz.func40, Tryz.ntmps40
  go_wp2
  go_ret
  exact ⟨rfl, rfl⟩
set_option maxRecDepth 10000 in
theorem takes_21 (w : World) : Calls Tryz.prog 40 #[.string ⟨#[105]⟩] w fun e w' => e = .returned (.int .i64 0) ∧ w = w' := by
  go_enter Tryz.func40, Tryz.ntmps40
  go_wp2
  go_ret
  exact ⟨rfl, rfl⟩
set_option maxRecDepth 10000 in
theorem takes_22 (w : World) : Calls Tryz.prog 40 #[.string ⟨#[46]⟩] w fun e w' => e = .returned (.int .i64 1) ∧ w = w' := by
  go_enter Tryz.func40, Tryz.ntmps40
  go_wp2
  go_ret
  exact ⟨rfl, rfl⟩
set_option maxRecDepth 10000 in
theorem takes_23 (w : World) : Calls Tryz.prog 40 #[.string ⟨#[110, 111, 112]⟩] w fun e w' => e = .returned (.int .i64 0) ∧ w = w' := by
  go_enter Tryz.func40, Tryz.ntmps40
  go_wp2
  go_ret
  exact ⟨rfl, rfl⟩
theorem spec_takes (k : Nat) (hk : k < 24) (w : World) : Calls Tryz.prog 40 #[.string (primNames.getD k ⟨#[]⟩)] w fun e w' => e = .returned (.int .i64 (takes8 k)) ∧ w = w' := by
  match k, hk with
  | 0, _ => exact takes_0 w
  | 1, _ => exact takes_1 w
  | 2, _ => exact takes_2 w
  | 3, _ => exact takes_3 w
  | 4, _ => exact takes_4 w
  | 5, _ => exact takes_5 w
  | 6, _ => exact takes_6 w
  | 7, _ => exact takes_7 w
  | 8, _ => exact takes_8 w
  | 9, _ => exact takes_9 w
  | 10, _ => exact takes_10 w
  | 11, _ => exact takes_11 w
  | 12, _ => exact takes_12 w
  | 13, _ => exact takes_13 w
  | 14, _ => exact takes_14 w
  | 15, _ => exact takes_15 w
  | 16, _ => exact takes_16 w
  | 17, _ => exact takes_17 w
  | 18, _ => exact takes_18 w
  | 19, _ => exact takes_19 w
  | 20, _ => exact takes_20 w
  | 21, _ => exact takes_21 w
  | 22, _ => exact takes_22 w
  | 23, _ => exact takes_23 w
  | k + 24, h => omega
end Go.Proofs.YtdiaiflleiebfaaGreatDoor

namespace Go.Proofs.YtdiaiflleiebfaaGreatDoor
open Go.RowKit Go

section
variable {w w' : World} {lo hi : Nat} {d r m c v o i : Value} {S : S8}
theorem OwnSt.alloc (h : OwnSt w lo hi d r m c v o i S) (ob : Obj) : OwnSt (w.alloc ob) lo hi d r m c v o i S := h.keep (below_alloc w ob)
theorem OwnSt.setCell (h : OwnSt w lo hi d r m c v o i S) {p : Addr} (hp : p.block < lo ∨ hi ≤ p.block) (u : Value) : OwnSt (w.setCell p u) lo hi d r m c v o i S :=
  h.same fun k h1 h2 _ => Below.heap_setCell w p u k (by rintro rfl; omega)
theorem OwnSt.setSt (h : OwnSt w lo hi d r m c v o i S) {g : Nat} (hp : g < lo ∨ hi ≤ g) (x0 x1 x2 x3 x4 x5 x6 x7 x8 x9 : Value) : OwnSt (putSt w g x0 x1 x2 x3 x4 x5 x6 x7 x8 x9) lo hi d r m c v o i S :=
  h.same fun k h1 h2 h3 => (putSt_only w g x0 x1 x2 x3 x4 x5 x6 x7 x8 x9).block k h3 (fun e => by injection e with e; omega)
theorem OwnSt.scal (h : OwnSt w lo hi d r m c v o i S) (a f u : Int) : OwnSt w lo hi d r m c v o i { S with a := a, fault := f, fuel := u } := ⟨h.top, h.dm, h.oi, h.d, h.r, h.m, h.c, h.v, h.o, h.i⟩
theorem own_prefix {e : TypeId} {A : Option Addr} {N cap n : Nat} {xs : List Value} (h : w.ownsRow lo e 1 (.slice A N cap) N xs) (hn : n ≤ N) : w.ownsRow lo e 1 (.slice A n cap) n (xs.take n) := by
  have hl := h.1
  refine ⟨by rw [List.length_take]; omega, ?_⟩
  rcases h.2 with ⟨e1, h0⟩ | ⟨g, cp, cur, e1, hb, hg, hnc, hm, hsz, ht⟩
  · injection e1 with e1 e2 e3
    subst e1 e3
    exact .inl ⟨by rw [show n = 0 by omega], by omega⟩
  · injection e1 with e1 e2 e3
    subst e1 e3
    refine .inr ⟨g, cap, cur, rfl, hb, hg, by omega, hm, hsz, ?_⟩
    rw [← ht, List.take_take]
    congr 1
    omega
theorem own_block {A : Option Addr} {N cap n : Nat} : (Value.slice A n cap).ownBlock = (Value.slice A N cap).ownBlock := by cases A <;> rfl
/-- A store into a box that is none of the rows. -/
theorem OwnSt.atBox (h : OwnSt w lo hi d r m c v o i S) {g : Nat} {t : TypeId} {cs : Array Value} (hk : Blk w g t cs) (hg : w.grownBy w' (some g)) (h1 : t ≠ 21) (h2 : t ≠ 69) (h3 : t ≠ 36) (h4 : t ≠ 3) (h5 : t ≠ 5) : OwnSt w' lo hi d r m c v o i S := by
  have K : ∀ {e : TypeId} {size n : Nat} {x : Value} {xs : List Value}, w.ownsRow lo e size x n xs → t ≠ e → w'.ownsRow lo e size x n xs := fun ho ht => ho.kept hg (.inr fun e => box_neG hk ho ht e.symm)
  exact ⟨h.top, h.dm, h.oi, K h.d h1, K h.r h2, K h.m h1, K h.c h3, K h.v h4, K h.o h5, h.i.kept hg (.inr fun e => box_neT hk h.i h5 e.symm)⟩
/-- The data row is another one; what changed lies in the old one or in new memory. -/
theorem OwnSt.data (h : OwnSt w lo hi d r m c v o i S) (hh : hi ≤ w.heap.size) {d' : Value} {l : List Int} (hd : w'.ownsRow lo 21 1 d' l.length (l.map iv)) (hg : w.grownBy w' d.ownBlock) (hb : ∀ k, d'.ownBlock = some k → d.ownBlock = some k ∨ w.heap.size ≤ k) : OwnSt w' lo w'.heap.size d' r m c v o i { S with data := l } := by
  have K : ∀ {e : TypeId} {size n : Nat} {x : Value} {xs : List Value}, w.ownsRow lo e size x n xs → (x.ownBlock = none ∨ x.ownBlock ≠ d.ownBlock) → w'.ownsRow lo e size x n xs := fun ho hne => ho.kept hg hne
  have hm := K h.m (apart_sym h.dm)
  refine OwnSt.of7T (S := { S with data := l }) hd (K h.r (rows_ne h.r h.d (by decide))) hm (K h.c (rows_ne h.c h.d (by decide))) (K h.v (rows_ne h.v h.d (by decide))) (K h.o (rows_ne h.o h.d (by decide))) (h.i.kept hg (tail_ne h.i h.d (by decide))) ?_ h.oi
  cases hq : d'.ownBlock with
  | none => exact .inl rfl
  | some k =>
    refine .inr fun e => ?_
    rcases hb k hq with h1 | h1
    · rcases h.dm with h2 | h2
      · rw [h1] at h2; cases h2
      · exact h2 (h1.trans e)
    · have := h.top m (by simp) k e.symm
      omega
theorem AppAlt.where_ {n k2 : Nat} {d' : Value} (h : AppAlt w w' d d' n k2) : ∀ k, d'.ownBlock = some k → d.ownBlock = some k ∨ w.heap.size ≤ k := by
  intro k hk
  rcases h with ⟨g, cap, rfl, -, rfl, -⟩ | ⟨-, h⟩
  · exact .inl hk
  · exact .inr (h k hk)
end
/-- A state handed back. -/
theorem newst_of {w W : World} {lo hi : Nat} {d r m c v o i : Value} {S : S8} (h : OwnSt W lo hi d r m c v o i S) (h1 : w.heap.size ≤ lo) (h2 : hi ≤ W.heap.size) (hb : Below w.heap.size w W) :
    NewSt w S (.returned (.agg #[d, r, .int .i32 S.a, m, c, v, o, i, .int .i64 S.fault, .int .i64 S.fuel])) W := ⟨d, r, m, c, v, o, i, rfl, h.mono h1 h2, hb⟩
end Go.Proofs.YtdiaiflleiebfaaGreatDoor
