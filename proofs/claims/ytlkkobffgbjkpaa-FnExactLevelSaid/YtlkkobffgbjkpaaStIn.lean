/-
  A state that comes in.
-/
import Derived.Test.YtlkkobffgbjkpaaStOwn
namespace Go.Proofs.Ytlkkobffgbjkpaa
open Go.RowKit Go

/-- A state whose numbers are of their kinds. -/
structure In8 (S : S8) : Prop where
  data : ∀ x ∈ S.data, -2147483648 ≤ x ∧ x ≤ 2147483647
  ret : ∀ x ∈ S.ret, (-9223372036854775808 ≤ x.1 ∧ x.1 ≤ 9223372036854775807) ∧ (-2147483648 ≤ x.2 ∧ x.2 ≤ 2147483647)
  a : -2147483648 ≤ S.a ∧ S.a ≤ 2147483647
  mem : ∀ x ∈ S.mem, -2147483648 ≤ x ∧ x ≤ 2147483647
  cells : ∀ x ∈ S.cells, x < 4294967296
  vars : ∀ x ∈ S.vars, -9223372036854775808 ≤ x ∧ x ≤ 9223372036854775807
  out : ∀ x ∈ S.out, x < 256
  inp : ∀ x ∈ S.inp, x < 256
  fault : -9223372036854775808 ≤ S.fault ∧ S.fault ≤ 9223372036854775807
  fuel : -9223372036854775808 ≤ S.fuel ∧ S.fuel ≤ 9223372036854775807
/-- A state that comes in. -/
def StIn (w : World) (d r m c v o i : Value) (xa xf xu : Int) (n0 n1 n2 n3 n4 n5 n6 : Nat) : Prop :=
  n0 + n1 + n2 + n3 + n4 + n5 + n6 ≤ 4611686018427387904 → ∃ S : S8, S.data.length = n0 ∧ S.ret.length = n1 ∧ S.mem.length = n2 ∧ S.cells.length = n3 ∧ S.vars.length = n4 ∧ S.out.length = n5 ∧ S.inp.length = n6 ∧ S.a = xa ∧ S.fault = xf ∧ S.fuel = xu ∧ In8 S ∧ RdSt w d r m c v o i S
end Go.Proofs.Ytlkkobffgbjkpaa
