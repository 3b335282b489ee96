/-
  The size of a state that comes in.
-/
import Derived.Test.YtlkkobffgbjkpaaStOwn
namespace Go.Proofs.Ytlkkobffgbjkpaa
open Go.RowKit Go

theorem szst_fit (A0 : Option Addr) (n0 c0 : Nat) (A1 : Option Addr) (n1 c1 : Nat) (A2 : Option Addr) (n2 c2 : Nat) (A3 : Option Addr) (n3 c3 : Nat) (A4 : Option Addr) (n4 c4 : Nat) (A5 : Option Addr) (n5 c5 : Nat) (A6 : Option Addr) (n6 c6 : Nat) (a f u left : Int) (hl : -1 ≤ left ∧ left ≤ 1048576) (hs : (n0 : Int) + (n1 : Int) + (n2 : Int) + (n3 : Int) + (n4 : Int) + (n5 : Int) + (n6 : Int) ≤ left) (w : World) :
    Calls Try.prog 34 #[.agg #[.slice A0 n0 c0, .slice A1 n1 c1, .int .i32 a, .slice A2 n2 c2, .slice A3 n3 c3, .slice A4 n4 c4, .slice A5 n5 c5, .slice A6 n6 c6, .int .i64 f, .int .i64 u], .int .i64 left] w fun e w' => e = .returned (.int .i64 (left - (n0 : Int) - (n1 : Int) - (n2 : Int) - (n3 : Int) - (n4 : Int) - (n5 : Int) - (n6 : Int))) ∧ Below w.heap.size w w' := by
  have h0 : ¬ (left - (n0 : Int) < 0) := by omega
  have h1 : ¬ (left - (n0 : Int) - (n1 : Int) < 0) := by omega
  have h2 : ¬ (left - (n0 : Int) - (n1 : Int) - (n2 : Int) < 0) := by omega
  have h3 : ¬ (left - (n0 : Int) - (n1 : Int) - (n2 : Int) - (n3 : Int) < 0) := by omega
  have h4 : ¬ (left - (n0 : Int) - (n1 : Int) - (n2 : Int) - (n3 : Int) - (n4 : Int) < 0) := by omega
  have h5 : ¬ (left - (n0 : Int) - (n1 : Int) - (n2 : Int) - (n3 : Int) - (n4 : Int) - (n5 : Int) < 0) := by omega
  have h6 : ¬ (left - (n0 : Int) - (n1 : Int) - (n2 : Int) - (n3 : Int) - (n4 : Int) - (n5 : Int) - (n6 : Int) < 0) := by omega
  go_enter Try.func34, Try.ntmps34
  go_wp2
  go_ret
  exact ⟨rfl, by go_grown⟩
theorem szst_no0 (A0 : Option Addr) (n0 c0 : Nat) (A1 : Option Addr) (n1 c1 : Nat) (A2 : Option Addr) (n2 c2 : Nat) (A3 : Option Addr) (n3 c3 : Nat) (A4 : Option Addr) (n4 c4 : Nat) (A5 : Option Addr) (n5 c5 : Nat) (A6 : Option Addr) (n6 c6 : Nat) (a f u left : Int) (_hl : -1 ≤ left ∧ left ≤ 1048576) (hm : n0 ≤ 9223372036854775807) (hs : left - (n0 : Int) < 0) (w : World) :
    Calls Try.prog 34 #[.agg #[.slice A0 n0 c0, .slice A1 n1 c1, .int .i32 a, .slice A2 n2 c2, .slice A3 n3 c3, .slice A4 n4 c4, .slice A5 n5 c5, .slice A6 n6 c6, .int .i64 f, .int .i64 u], .int .i64 left] w fun e w' => e = .returned (.int .i64 (-1)) ∧ Below w.heap.size w w' := by
  go_enter Try.func34, Try.ntmps34
  go_wp2
  go_ret
  exact ⟨rfl, by go_grown⟩
theorem szst_no1 (A0 : Option Addr) (n0 c0 : Nat) (A1 : Option Addr) (n1 c1 : Nat) (A2 : Option Addr) (n2 c2 : Nat) (A3 : Option Addr) (n3 c3 : Nat) (A4 : Option Addr) (n4 c4 : Nat) (A5 : Option Addr) (n5 c5 : Nat) (A6 : Option Addr) (n6 c6 : Nat) (a f u left : Int) (_hl : -1 ≤ left ∧ left ≤ 1048576) (h0 : ¬ (left - (n0 : Int) < 0)) (hm : n1 ≤ 9223372036854775807) (hs : left - (n0 : Int) - (n1 : Int) < 0) (w : World) :
    Calls Try.prog 34 #[.agg #[.slice A0 n0 c0, .slice A1 n1 c1, .int .i32 a, .slice A2 n2 c2, .slice A3 n3 c3, .slice A4 n4 c4, .slice A5 n5 c5, .slice A6 n6 c6, .int .i64 f, .int .i64 u], .int .i64 left] w fun e w' => e = .returned (.int .i64 (-1)) ∧ Below w.heap.size w w' := by
  go_enter Try.func34, Try.ntmps34
  go_wp2
  go_ret
  exact ⟨rfl, by go_grown⟩
theorem szst_no2 (A0 : Option Addr) (n0 c0 : Nat) (A1 : Option Addr) (n1 c1 : Nat) (A2 : Option Addr) (n2 c2 : Nat) (A3 : Option Addr) (n3 c3 : Nat) (A4 : Option Addr) (n4 c4 : Nat) (A5 : Option Addr) (n5 c5 : Nat) (A6 : Option Addr) (n6 c6 : Nat) (a f u left : Int) (_hl : -1 ≤ left ∧ left ≤ 1048576) (h0 : ¬ (left - (n0 : Int) < 0)) (h1 : ¬ (left - (n0 : Int) - (n1 : Int) < 0)) (hm : n2 ≤ 9223372036854775807) (hs : left - (n0 : Int) - (n1 : Int) - (n2 : Int) < 0) (w : World) :
    Calls Try.prog 34 #[.agg #[.slice A0 n0 c0, .slice A1 n1 c1, .int .i32 a, .slice A2 n2 c2, .slice A3 n3 c3, .slice A4 n4 c4, .slice A5 n5 c5, .slice A6 n6 c6, .int .i64 f, .int .i64 u], .int .i64 left] w fun e w' => e = .returned (.int .i64 (-1)) ∧ Below w.heap.size w w' := by
  go_enter Try.func34, Try.ntmps34
  go_wp2
  go_ret
  exact ⟨rfl, by go_grown⟩
theorem szst_no3 (A0 : Option Addr) (n0 c0 : Nat) (A1 : Option Addr) (n1 c1 : Nat) (A2 : Option Addr) (n2 c2 : Nat) (A3 : Option Addr) (n3 c3 : Nat) (A4 : Option Addr) (n4 c4 : Nat) (A5 : Option Addr) (n5 c5 : Nat) (A6 : Option Addr) (n6 c6 : Nat) (a f u left : Int) (_hl : -1 ≤ left ∧ left ≤ 1048576) (h0 : ¬ (left - (n0 : Int) < 0)) (h1 : ¬ (left - (n0 : Int) - (n1 : Int) < 0)) (h2 : ¬ (left - (n0 : Int) - (n1 : Int) - (n2 : Int) < 0)) (hm : n3 ≤ 9223372036854775807) (hs : left - (n0 : Int) - (n1 : Int) - (n2 : Int) - (n3 : Int) < 0) (w : World) :
    Calls Try.prog 34 #[.agg #[.slice A0 n0 c0, .slice A1 n1 c1, .int .i32 a, .slice A2 n2 c2, .slice A3 n3 c3, .slice A4 n4 c4, .slice A5 n5 c5, .slice A6 n6 c6, .int .i64 f, .int .i64 u], .int .i64 left] w fun e w' => e = .returned (.int .i64 (-1)) ∧ Below w.heap.size w w' := by
  go_enter Try.func34, Try.ntmps34
  go_wp2
  go_ret
  exact ⟨rfl, by go_grown⟩
theorem szst_no4 (A0 : Option Addr) (n0 c0 : Nat) (A1 : Option Addr) (n1 c1 : Nat) (A2 : Option Addr) (n2 c2 : Nat) (A3 : Option Addr) (n3 c3 : Nat) (A4 : Option Addr) (n4 c4 : Nat) (A5 : Option Addr) (n5 c5 : Nat) (A6 : Option Addr) (n6 c6 : Nat) (a f u left : Int) (_hl : -1 ≤ left ∧ left ≤ 1048576) (h0 : ¬ (left - (n0 : Int) < 0)) (h1 : ¬ (left - (n0 : Int) - (n1 : Int) < 0)) (h2 : ¬ (left - (n0 : Int) - (n1 : Int) - (n2 : Int) < 0)) (h3 : ¬ (left - (n0 : Int) - (n1 : Int) - (n2 : Int) - (n3 : Int) < 0)) (hm : n4 ≤ 9223372036854775807) (hs : left - (n0 : Int) - (n1 : Int) - (n2 : Int) - (n3 : Int) - (n4 : Int) < 0) (w : World) :
    Calls Try.prog 34 #[.agg #[.slice A0 n0 c0, .slice A1 n1 c1, .int .i32 a, .slice A2 n2 c2, .slice A3 n3 c3, .slice A4 n4 c4, .slice A5 n5 c5, .slice A6 n6 c6, .int .i64 f, .int .i64 u], .int .i64 left] w fun e w' => e = .returned (.int .i64 (-1)) ∧ Below w.heap.size w w' := by
  go_enter Try.func34, Try.ntmps34
  go_wp2
  go_ret
  exact ⟨rfl, by go_grown⟩
theorem szst_no5 (A0 : Option Addr) (n0 c0 : Nat) (A1 : Option Addr) (n1 c1 : Nat) (A2 : Option Addr) (n2 c2 : Nat) (A3 : Option Addr) (n3 c3 : Nat) (A4 : Option Addr) (n4 c4 : Nat) (A5 : Option Addr) (n5 c5 : Nat) (A6 : Option Addr) (n6 c6 : Nat) (a f u left : Int) (_hl : -1 ≤ left ∧ left ≤ 1048576) (h0 : ¬ (left - (n0 : Int) < 0)) (h1 : ¬ (left - (n0 : Int) - (n1 : Int) < 0)) (h2 : ¬ (left - (n0 : Int) - (n1 : Int) - (n2 : Int) < 0)) (h3 : ¬ (left - (n0 : Int) - (n1 : Int) - (n2 : Int) - (n3 : Int) < 0)) (h4 : ¬ (left - (n0 : Int) - (n1 : Int) - (n2 : Int) - (n3 : Int) - (n4 : Int) < 0)) (hm : n5 ≤ 9223372036854775807) (hs : left - (n0 : Int) - (n1 : Int) - (n2 : Int) - (n3 : Int) - (n4 : Int) - (n5 : Int) < 0) (w : World) :
    Calls Try.prog 34 #[.agg #[.slice A0 n0 c0, .slice A1 n1 c1, .int .i32 a, .slice A2 n2 c2, .slice A3 n3 c3, .slice A4 n4 c4, .slice A5 n5 c5, .slice A6 n6 c6, .int .i64 f, .int .i64 u], .int .i64 left] w fun e w' => e = .returned (.int .i64 (-1)) ∧ Below w.heap.size w w' := by
  go_enter Try.func34, Try.ntmps34
  go_wp2
  go_ret
  exact ⟨rfl, by go_grown⟩
theorem szst_no6 (A0 : Option Addr) (n0 c0 : Nat) (A1 : Option Addr) (n1 c1 : Nat) (A2 : Option Addr) (n2 c2 : Nat) (A3 : Option Addr) (n3 c3 : Nat) (A4 : Option Addr) (n4 c4 : Nat) (A5 : Option Addr) (n5 c5 : Nat) (A6 : Option Addr) (n6 c6 : Nat) (a f u left : Int) (_hl : -1 ≤ left ∧ left ≤ 1048576) (h0 : ¬ (left - (n0 : Int) < 0)) (h1 : ¬ (left - (n0 : Int) - (n1 : Int) < 0)) (h2 : ¬ (left - (n0 : Int) - (n1 : Int) - (n2 : Int) < 0)) (h3 : ¬ (left - (n0 : Int) - (n1 : Int) - (n2 : Int) - (n3 : Int) < 0)) (h4 : ¬ (left - (n0 : Int) - (n1 : Int) - (n2 : Int) - (n3 : Int) - (n4 : Int) < 0)) (h5 : ¬ (left - (n0 : Int) - (n1 : Int) - (n2 : Int) - (n3 : Int) - (n4 : Int) - (n5 : Int) < 0)) (hm : n6 ≤ 9223372036854775807) (hs : left - (n0 : Int) - (n1 : Int) - (n2 : Int) - (n3 : Int) - (n4 : Int) - (n5 : Int) - (n6 : Int) < 0) (w : World) :
    Calls Try.prog 34 #[.agg #[.slice A0 n0 c0, .slice A1 n1 c1, .int .i32 a, .slice A2 n2 c2, .slice A3 n3 c3, .slice A4 n4 c4, .slice A5 n5 c5, .slice A6 n6 c6, .int .i64 f, .int .i64 u], .int .i64 left] w fun e w' => e = .returned (.int .i64 (-1)) ∧ Below w.heap.size w w' := by
  go_enter Try.func34, Try.ntmps34
  go_wp2
  go_ret
  exact ⟨rfl, by go_grown⟩
end Go.Proofs.Ytlkkobffgbjkpaa
