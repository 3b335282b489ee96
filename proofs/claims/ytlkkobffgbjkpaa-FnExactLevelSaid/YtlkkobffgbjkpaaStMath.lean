/-
  The machine's state as plain lists; when one is right; what a built-in word makes of one.
-/
import Derived.Test.YtlkkobffgbjkpaaBlockMath
import Derived.Test.YtlkkobffgbjkpaaDecMath
namespace Go.Proofs.Ytlkkobffgbjkpaa
open Go.RowKit Go

/-- A state of the machine, as it is meant. -/
structure S8 where
  data : List Int
  ret : List (Int × Int)
  a : Int
  mem : List Int
  cells : List Nat
  vars : List Int
  out : List Nat
  inp : List Nat
  fault : Int
  fuel : Int
def zero8 : S8 := ⟨[], [], 0, [], [], [], [], [], 0, 0⟩
def kindsB (r : List (Int × Int)) : Bool := decide (∀ i (h : i < r.length), 0 ≤ (r[i]).1 ∧ (r[i]).1 ≤ 2)
def varsB (v : List Int) (n : Nat) : Bool := decide (∀ i (h : i < v.length), (0 ≤ v[i] ∧ v[i] < (n : Int)) ∧ v[i] ∉ v.take i)
/-- A right state. -/
def ok8 (S : S8) : Bool :=
  decide (S.data.length ≤ 16) && (decide (S.ret.length ≤ 24) && (decide (S.mem.length = 32) && (decide (S.vars.length ≤ 20) && (decide (S.out.length ≤ 400) && (decide (S.inp.length ≤ 100) &&
    (kindsB S.ret && (varsB S.vars S.cells.length && (storeB S.cells.length && (decide (0 ≤ S.fault ∧ S.fault ≤ 13) && decide (0 ≤ S.fuel ∧ S.fuel ≤ 4000))))))))))
structure Ok8 (S : S8) : Prop where
  data : S.data.length ≤ 16
  ret : S.ret.length ≤ 24
  mem : S.mem.length = 32
  vars : S.vars.length ≤ 20
  out : S.out.length ≤ 400
  inp : S.inp.length ≤ 100
  kinds : kindsB S.ret = true
  places : varsB S.vars S.cells.length = true
  store : storeB S.cells.length = true
  fault : 0 ≤ S.fault ∧ S.fault ≤ 13
  fuel : 0 ≤ S.fuel ∧ S.fuel ≤ 4000
theorem ok8_iff (S : S8) : ok8 S = true ↔ Ok8 S := by
  unfold ok8
  simp only [Bool.and_eq_true, decide_eq_true_eq]
  constructor
  · rintro ⟨h1, h2, h3, h4, h5, h6, h7, h8, h9, h10, h11⟩
    exact ⟨h1, h2, h3, h4, h5, h6, h7, h8, h9, h10, h11⟩
  · rintro ⟨h1, h2, h3, h4, h5, h6, h7, h8, h9, h10, h11⟩
    exact ⟨h1, h2, h3, h4, h5, h6, h7, h8, h9, h10, h11⟩
theorem Ok8.cells {S : S8} (h : Ok8 S) : S.cells.length ≤ 768 := by
  have := h.store
  unfold storeB at this
  exact (of_decide_eq_true this).2
/-- The i-th number from the top. -/
def top8 (S : S8) (i : Nat) : Int := S.data.getD (S.data.length - 1 - i) 0
/-- t numbers are taken, those of l put. -/
def put8 (S : S8) (t : Nat) (l : List Int) : Int ⊕ S8 := if 16 < S.data.length - t + l.length then .inl 2 else .inr { S with data := S.data.take (S.data.length - t) ++ l }
def drop8 (S : S8) (t : Nat) : S8 := { S with data := S.data.take (S.data.length - t) }
def takes8 (k : Nat) : Nat := [1, 1, 2, 2, 2, 2, 1, 2, 2, 2, 1, 1, 2, 1, 2, 0, 1, 1, 0, 1, 0, 0, 1, 0].getD k 0
/-- A number's text, as bytes' numbers. -/
def decN (y : Int) : List Nat := (Lib.itoa y).map (·.toNat)
/-- Numbers that make numbers. -/
def pure8 (k : Nat) (x y : Int) : List Int :=
  match k with
  | 0 => [y, y]
  | 1 => []
  | 2 => [x, y, x]
  | 3 => [y]
  | 4 => [y, x]
  | 5 => [wrap32 (x + y)]
  | 6 => [-1 - y]
  | 7 => [wrap32 (x * y)]
  | 8 => [bits .and .i32 x y]
  | 9 => [bits .xor .i32 x y]
  | 10 => [wrap32 (y + y)]
  | 11 => [y / 2]
  | _ => []
def say8 (S : S8) (b : List Nat) : Int ⊕ S8 := if 400 < S.out.length + b.length then .inl 13 else .inr { drop8 S 1 with out := S.out ++ b }
/-- What a word makes of a state with numbers enough. -/
def prim8 (k : Nat) (S : S8) (x y : Int) : Int ⊕ S8 :=
  match k with
  | 12 => if y = 0 then .inl 5 else put8 S 2 [x.tmod y, wrap32 (x.tdiv y)]
  | 13 => if 0 ≤ y ∧ y ≤ 31 then put8 S 1 [S.mem.getD y.toNat 0] else if 1024 ≤ y ∧ y < 1024 + (S.cells.length : Int) then put8 S 1 [wrap32 (S.cells.getD (y - 1024).toNat 0 : Nat)] else .inl 4
  | 14 => if 0 ≤ y ∧ y ≤ 31 then .inr { drop8 S 2 with mem := S.mem.set y.toNat x } else if y - 1024 ∈ S.vars then .inr { drop8 S 2 with cells := S.cells.set (y - 1024).toNat (x % 4294967296).toNat } else .inl 4
  | 15 => put8 S 0 [S.a]
  | 16 => .inr { drop8 S 1 with a := y }
  | 17 => say8 S [(y % 256).toNat]
  | 18 => match S.inp with
    | [] => put8 S 0 [-1]
    | b :: r => put8 { S with inp := r } 0 [(b : Int)]
  | 19 => if S.ret.length = 24 then .inl 3 else .inr { drop8 S 1 with ret := S.ret ++ [(0, y)] }
  | 20 => match S.ret.getLast? with
    | none => .inl 3
    | some t => if t.1 = 0 then put8 { S with ret := S.ret.dropLast } 0 [t.2] else .inl 11
  | 21 => match S.ret.getLast? with
    | none => .inl 3
    | some t => if t.1 = 2 then .inl 11 else put8 S 0 [t.2]
  | 22 => say8 S (decN y ++ [32])
  | _ => put8 S (takes8 k) (pure8 k x y)
def word8 (S : S8) (k : Int) : Int ⊕ S8 :=
  if k < 0 ∨ 23 < k then .inl 1 else if S.data.length < takes8 k.toNat then .inl 2 else prim8 k.toNat S (top8 S 1) (top8 S 0)
/-- The state behind a word: the same one with a fault, or the next one. -/
def fin8 (S : S8) : Int ⊕ S8 → S8
  | .inl f => { S with fault := f }
  | .inr T => T
def do8 (S : S8) (k : Int) : S8 := if ok8 S = true then (if S.fault = 0 then fin8 S (word8 S k) else S) else zero8
def push8 (S : S8) (n : Int) : S8 := if ok8 S = true then (if S.fault = 0 then fin8 S (put8 S 0 [n]) else S) else zero8
def new8 (cells : List Nat) (inp : List Nat) (fuel : Int) : S8 := if inp.length ≤ 100 ∧ storeB cells.length = true ∧ 0 ≤ fuel ∧ fuel ≤ 4000 then ⟨[], [], 0, List.replicate 32 0, cells, [], [], inp, 0, fuel⟩ else zero8
/-- How many marks a state takes. -/
def totSt (S : S8) : Nat := S.data.length + 2 * S.ret.length + S.mem.length + S.cells.length + S.vars.length + S.out.length + S.inp.length
theorem Ok8.tot {S : S8} (h : Ok8 S) : totSt S ≤ 1500 := by
  have h1 := h.cells
  have := h.data; have := h.ret; have := h.mem; have := h.vars; have := h.out; have := h.inp
  unfold totSt
  omega
end Go.Proofs.Ytlkkobffgbjkpaa
