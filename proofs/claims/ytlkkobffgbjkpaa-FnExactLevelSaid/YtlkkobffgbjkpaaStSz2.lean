/-
  The size of a state that is too great.
-/
import Derived.Test.YtlkkobffgbjkpaaStSz
namespace Go.Proofs.Ytlkkobffgbjkpaa
open Go.RowKit Go

theorem szst_no (A0 : Option Addr) (n0 c0 : Nat) (A1 : Option Addr) (n1 c1 : Nat) (A2 : Option Addr) (n2 c2 : Nat) (A3 : Option Addr) (n3 c3 : Nat) (A4 : Option Addr) (n4 c4 : Nat) (A5 : Option Addr) (n5 c5 : Nat) (A6 : Option Addr) (n6 c6 : Nat) (a f u left : Int) (hl : -1 ≤ left ∧ left ≤ 1048576) (h0 : n0 ≤ 9223372036854775807 ∧ n1 ≤ 9223372036854775807 ∧ n2 ≤ 9223372036854775807 ∧ n3 ≤ 9223372036854775807 ∧ n4 ≤ 9223372036854775807 ∧ n5 ≤ 9223372036854775807 ∧ n6 ≤ 9223372036854775807) (hs : left < (n0 : Int) + (n1 : Int) + (n2 : Int) + (n3 : Int) + (n4 : Int) + (n5 : Int) + (n6 : Int)) (w : World) :
    Calls Try.prog 34 #[.agg #[.slice A0 n0 c0, .slice A1 n1 c1, .int .i32 a, .slice A2 n2 c2, .slice A3 n3 c3, .slice A4 n4 c4, .slice A5 n5 c5, .slice A6 n6 c6, .int .i64 f, .int .i64 u], .int .i64 left] w fun e w' => e = .returned (.int .i64 (-1)) ∧ Below w.heap.size w w' := by
  obtain ⟨h0, h1, h2, h3, h4, h5, h6⟩ := h0
  by_cases g0 : left - (n0 : Int) < 0
  · exact szst_no0 A0 n0 c0 A1 n1 c1 A2 n2 c2 A3 n3 c3 A4 n4 c4 A5 n5 c5 A6 n6 c6 a f u left hl h0 g0 w
  by_cases g1 : left - (n0 : Int) - (n1 : Int) < 0
  · exact szst_no1 A0 n0 c0 A1 n1 c1 A2 n2 c2 A3 n3 c3 A4 n4 c4 A5 n5 c5 A6 n6 c6 a f u left hl g0 h1 g1 w
  by_cases g2 : left - (n0 : Int) - (n1 : Int) - (n2 : Int) < 0
  · exact szst_no2 A0 n0 c0 A1 n1 c1 A2 n2 c2 A3 n3 c3 A4 n4 c4 A5 n5 c5 A6 n6 c6 a f u left hl g0 g1 h2 g2 w
  by_cases g3 : left - (n0 : Int) - (n1 : Int) - (n2 : Int) - (n3 : Int) < 0
  · exact szst_no3 A0 n0 c0 A1 n1 c1 A2 n2 c2 A3 n3 c3 A4 n4 c4 A5 n5 c5 A6 n6 c6 a f u left hl g0 g1 g2 h3 g3 w
  by_cases g4 : left - (n0 : Int) - (n1 : Int) - (n2 : Int) - (n3 : Int) - (n4 : Int) < 0
  · exact szst_no4 A0 n0 c0 A1 n1 c1 A2 n2 c2 A3 n3 c3 A4 n4 c4 A5 n5 c5 A6 n6 c6 a f u left hl g0 g1 g2 g3 h4 g4 w
  by_cases g5 : left - (n0 : Int) - (n1 : Int) - (n2 : Int) - (n3 : Int) - (n4 : Int) - (n5 : Int) < 0
  · exact szst_no5 A0 n0 c0 A1 n1 c1 A2 n2 c2 A3 n3 c3 A4 n4 c4 A5 n5 c5 A6 n6 c6 a f u left hl g0 g1 g2 g3 g4 h5 g5 w
  exact szst_no6 A0 n0 c0 A1 n1 c1 A2 n2 c2 A3 n3 c3 A4 n4 c4 A5 n5 c5 A6 n6 c6 a f u left hl g0 g1 g2 g3 g4 g5 h6 (by omega) w
end Go.Proofs.Ytlkkobffgbjkpaa
