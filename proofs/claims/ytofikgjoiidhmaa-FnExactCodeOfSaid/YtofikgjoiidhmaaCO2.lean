/-
  Append as a law: onto a row of the call's own, from a list that can be read, nil or not; with a word on where the result lies.
  The table of the built-in words.
  The model's small test: spec.l01In answers whether a number lies between two.
  PrimName of both sides.
  The stack of ops: push and pop.
  Lists of definitions: how large one is, a copy of one, whether two are alike.
  Bodies as lists of pairs: which ops are right, what they leave open.
  Trees as plain data: how many they are, their ops in order, what a body has.
-/
import Derived.Test.YtofikgjoiidhmaaCO1
import Derived.Deep.DeepAppendRoom
import Derived.Deep.AppendSrc
import Derived.OwnWalk
import Derived.Deep.Onto
import Derived.Handy
import Derived.Laws.Tables
import Derived.Deep.WholeRow
import Derived.RegionTactic
import Derived.ChangeAlike
import Derived.Deep.RegionLaw
import Derived.IntWalk
import Derived.Deep.RegionHeld3
namespace Go.Proofs.Ytofikgjoiidhmaa
open Go.RowKit Go

/-- A goal at which the walk stands still. -/
def Stop (P : Prop) : Prop := P
theorem unstop {P : Prop} (h : Stop P) : P := h
theorem Stop.go {P : Prop} (h : P) : Stop P := h
/-- A list from which one appends: nil or an address with its cells. -/
def SrcAt (w : World) (size : Nat) (u : Value) (m : Nat) (ys : List Value) : Prop :=
  ∃ (A : Option Addr) (c : Nat), u = .slice A m c ∧ ys.length = m * size ∧ (A = none → m = 0) ∧ ∀ a, A = some a → ∀ j x, ys[j]? = some x → w.cell? (a.add j) = some x
/-- Where the result of an append lies: in the row itself, which has room, or in new memory. -/
def AppAlt (w w' : World) (v v' : Value) (n m : Nat) : Prop :=
  (∃ g cap, v = .slice (some ⟨g, 0, none⟩) n cap ∧ n + m ≤ cap ∧ v' = .slice (some ⟨g, 0, none⟩) (n + m) cap ∧ w.grownBy w' (some g)) ∨ (Below w.heap.size w w' ∧ ∀ k, v'.ownBlock = some k → w.heap.size ≤ k)
theorem AppAlt.grown {w w' : World} {v v' : Value} {n m : Nat} (h : AppAlt w w' v v' n m) : w.grownBy w' v.ownBlock := by
  rcases h with ⟨g, cap, rfl, -, -, h⟩ | ⟨h, -⟩
  · exact h
  · exact only_of_below h _
section
variable {P : Program} {w : World}
theorem run_append_nil_src (base : Nat) (t ty e : TypeId) (i : TypeInfo) (size : Nat) (ht : P.underlying t = some (.slice e)) (hi : P.info? e = some i)
    (v : Value) (n : Nat) (xs : List Value) (hown : w.ownsRow base e size v n xs) (c : Nat) : (Builtin.append_ #[t, t] ty #[v, .slice none 0 c]).run P w = .ok v w := by
  rcases hown.2 with ⟨rfl, rfl⟩ | ⟨g, cap, cur, rfl, _, _, hnc, _⟩
  · simp [Builtin.append_, run_underlying ht, sizeOf, typeInfo, hi, Builtin.lenOf, Builtin.firstCells]
  · simp [Builtin.append_, run_underlying ht, sizeOf, typeInfo, hi, Builtin.lenOf, Builtin.firstCells, hnc, storeCells]
theorem run_append_alt (base : Nat) (t ty e : TypeId) (i : TypeInfo) (z : Value) (size bytes : Nat) (ht : P.underlying t = some (.slice e)) (hi : P.info? e = some i) (hz : i.zero = some z)
    (hsize : i.size = size) (hby : i.bytes = bytes) (hzs : z.cells.size = size) (hsz : 0 < size)
    (v : Value) (n : Nat) (xs : List Value) (hown : w.ownsRow base e size v n xs)
    (u : Value) (m : Nat) (ys : List Value) (hsrc : SrcAt w size u m ys) (h1 : ∀ x ∈ ys, x.oneCell' = true)
    (h63 : n + m ≤ maxLen) (hbytes : (n + m) * bytes ≤ 140737488355328) (hbase : base ≤ w.heap.size) :
    ∃ v' w', (Builtin.append_ #[t, t] ty #[v, u]).run P w = .ok v' w' ∧ w'.ownsRow base e size v' (n + m) (xs ++ ys) ∧ AppAlt w w' v v' n m := by
  obtain ⟨A, c, rfl, hl, hnone, hcells⟩ := hsrc
  cases A with
  | none =>
    obtain rfl := hnone rfl
    have hys : ys = [] := List.eq_nil_of_length_eq_zero (by simpa using hl)
    subst hys
    refine ⟨v, w, run_append_nil_src base t ty e i size ht hi v n xs hown c, by simpa using hown, ?_⟩
    rcases hown.2 with ⟨rfl, -⟩ | ⟨g, cap, cur, rfl, -, -, hnc, -⟩
    · exact .inr ⟨Below.refl _ _, fun k hk => by simp [Value.ownBlock] at hk⟩
    · exact .inl ⟨g, cap, rfl, by omega, rfl, World.grownBy.refl _ _⟩
  | some a =>
    have hnews := hcells a rfl
    rcases hown.2 with ⟨rfl, hn0⟩ | ⟨g, cap, cur, rfl, hbg, hg, hnc, hcm, hcs, htake⟩
    · have hown2 : w.ownsRow w.heap.size e size (.slice none 0 0) n xs := by
        subst hn0
        have hx : xs = [] := List.eq_nil_of_length_eq_zero (by simpa using hown.1)
        rw [hx]
        exact World.ownsRow_nil _ _ _ _
      obtain ⟨v', w', hr, ho, hgr, -⟩ := run_append_own (P := P) w w.heap.size t ty e i z size bytes ht hi hz hsize hby hzs hsz _ n xs hown2 a m c ys hl hnews h1 h63 hbytes (Nat.le_refl _)
      exact ⟨v', w', hr, ho.mono hbase, .inr ⟨(Below.refl _ _).grown hgr (Nat.le_refl _) (fun k hk => by simp [Value.ownBlock] at hk), fun k hk => (World.ownsRow.lt ho k hk).1⟩⟩
    · by_cases hroom : n + m ≤ cap
      · obtain ⟨w', hr, ho, hgr⟩ := run_append_own_spare (P := P) w base t ty e i size ht hi hsize g n cap xs hown a m c ys hl hnews h1 hroom
        exact ⟨_, w', hr, ho, .inl ⟨g, cap, rfl, hroom, rfl, hgr⟩⟩
      · subst hsize
        subst hby
        have hsmall : n + m ≤ 9223372036854775807 := by simp only [maxLen] at h63; omega
        have holds : ∀ j u, xs[j]? = some u → w.cell? ((⟨g, 0, none⟩ : Addr).add j) = some u := World.ownsRow.cells hown (g := g) rfl
        have hr := run_append_grow (P := P) w t ty e i z ht hi hz ⟨g, 0, none⟩ n cap xs hown.1 holds a m c ys hl hnews (by omega) (by omega) (growslice_fits (by omega) hbytes)
        have hlen : (xs ++ ys).length = (n + m) * i.size := by rw [List.length_append, hown.1, hl, Nat.add_mul]
        refine ⟨_, _, hr, ⟨hlen, .inr ⟨w.heap.size, _, _, rfl, hbase, heap_alloc_new w.drew _, grownCap_ge w (n + m) cap e, grownCap_le_maxLen w (n + m) cap e h63, ?_, ?_⟩⟩, .inr ⟨⟨rfl, rfl, rfl, by simp, fun k hk => Below.heap_alloc w.drew _ k hk⟩, fun k hk => by simp [Value.ownBlock] at hk; omega⟩⟩
        · have h2 := grownCap_ge w (n + m) cap e
          simp only [Array.size_append, List.size_toArray, size_zeroCells, hzs, hown.1, hl, ← Nat.add_mul]
          congr 1
          omega
        · rw [Array.toList_append, Array.toList_append, ← hlen]
          exact List.take_left
theorem wpList_append_src {ops : Array Oper} {rest : List Oper} {o : Oper} {a : Act} {Q : Exit → Act → World → Prop} (hgd : o.guard = none) (s x : Operand) (t : TypeId)
    (ho : o.op = .call { callee := .builtin .append, args := #[s, x], argTypes := #[t, t] })
    (base : Nat) (e : TypeId) (i : TypeInfo) (z : Value) (size bytes : Nat) (ht : P.underlying t = some (.slice e)) (hi : P.info? e = some i) (hz : i.zero = some z)
    (hsize : i.size = size) (hby : i.bytes = bytes) (hzs : z.cells.size = size) (hsz : 0 < size)
    (v : Value) (n : Nat) (xs : List Value) (hs : a.eval s = v) (hown : w.ownsRow base e size v n xs)
    (u : Value) (m : Nat) (ys : List Value) (hx : a.eval x = u) (hsrc : SrcAt w size u m ys) (h1 : ∀ x ∈ ys, x.oneCell' = true)
    (h63 : n + m ≤ maxLen) (hbytes : (n + m) * bytes ≤ 140737488355328) (hbase : base ≤ w.heap.size)
    (h : ∀ v' w', w'.ownsRow base e size v' (n + m) (xs ++ ys) → Hid (AppAlt w w' v v' n m) → wpList P ops Q rest (a.put o.dst v') w') : wpList P ops Q (o :: rest) a w := by
  refine wpList_plain hgd fun K hK => ?_
  obtain ⟨v', w', hrun, h2, h3⟩ := run_append_alt (P := P) base t o.type e i z size bytes ht hi hz hsize hby hzs hsz v n xs hown u m ys hsrc h1 h63 hbytes hbase
  unfold Oper.wp
  simp [execOp, ho, resolve, invoke, builtin, hs, hx, hrun, Result.andThen]
  exact hK _ _ (h v' w' h2 h3)
end
end Go.Proofs.Ytofikgjoiidhmaa

namespace Go.Proofs.Ytofikgjoiidhmaa
open Go.RowKit Go

/-- The names of the built-in words. -/
def primNames : List ByteArray := [⟨#[100, 117, 112]⟩, ⟨#[100, 114, 111, 112]⟩, ⟨#[111, 118, 101, 114]⟩, ⟨#[110, 105, 112]⟩, ⟨#[115, 119, 97, 112]⟩, ⟨#[43]⟩, ⟨#[45]⟩, ⟨#[42]⟩, ⟨#[97, 110, 100]⟩, ⟨#[111, 114]⟩, ⟨#[50, 42]⟩, ⟨#[50, 47]⟩, ⟨#[47, 109, 111, 100]⟩, ⟨#[64]⟩, ⟨#[33]⟩, ⟨#[97]⟩, ⟨#[97, 33]⟩, ⟨#[101, 109, 105, 116]⟩, ⟨#[107, 101, 121]⟩, ⟨#[112, 117, 115, 104]⟩, ⟨#[112, 111, 112]⟩, ⟨#[105]⟩, ⟨#[46]⟩, ⟨#[110, 111, 112]⟩]
end Go.Proofs.Ytofikgjoiidhmaa

namespace Go.Proofs.Ytofikgjoiidhmaa
open Go.RowKit

def inB (x a b : Int) : Bool := decide (a ≤ x ∧ x ≤ b)
theorem inB_true {x a b : Int} (h0 : a ≤ x) (h1 : x ≤ b) : inB x a b = true := by unfold inB; simp [h0, h1]
theorem inB_false {x a b : Int} (h : ¬ (a ≤ x ∧ x ≤ b)) : inB x a b = false := by unfold inB; simpa using h
theorem inB_iff {x a b : Int} : inB x a b = true ↔ a ≤ x ∧ x ≤ b := by unfold inB; simp

theorem in_any (x a b : Int) (w : World) :
    Calls Try.prog 34 #[.int .i64 x, .int .i64 a, .int .i64 b] w fun e w' => e = .returned (.bool (inB x a b)) ∧ w = w' := by
  by_cases h0 : a ≤ x
  · by_cases h1 : x ≤ b
    · rw [inB_true h0 h1]
      go_enter Try.func34, Try.ntmps34
      go_wp2
      go_ret
      exact ⟨rfl, rfl⟩
    · rw [inB_false (by omega)]
      have h1' : decide (x ≤ b) = false := by simpa using h1
      go_enter Try.func34, Try.ntmps34
      go_wp2
      go_ret
      exact ⟨rfl, rfl⟩
  · rw [inB_false (by omega)]
    have h0' : decide (a ≤ x) = false := by simpa using h0
    go_enter Try.func34, Try.ntmps34
    go_wp2
    go_ret
    exact ⟨rfl, rfl⟩
end Go.Proofs.Ytofikgjoiidhmaa

namespace Go.Proofs.Ytofikgjoiidhmaa
open Go.RowKit Go

theorem below_alloc1 (w : World) (o : Obj) : Below w.heap.size w (w.alloc o) := (Below.refl _ _).alloc (Nat.le_refl _) _
/-- The name of a word; the empty text where there is none. -/
def primN (k : Int) : ByteArray := if 0 ≤ k ∧ k ≤ 23 then primNames.getD k.toNat ⟨#[]⟩ else ⟨#[]⟩
def primStrs : Array Value := (primNames.map Value.string).toArray
theorem names_any (w : World) : Calls Try.prog 50 #[] w fun e w' => e = .returned (.slice (some ⟨w.heap.size, 0, none⟩) 24 24) ∧ Blk w' w.heap.size 9 primStrs ∧ Below w.heap.size w w' := by
  go_enter Try.func50, Try.ntmps50
  go_wp2
  go_ret
  exact ⟨rfl, Blk.new w 9 _, below_alloc1 w _⟩
theorem strs_cell {w : World} {g k : Nat} (h : Blk w g 9 primStrs) (hk : k < 24) : w.cell? ⟨g, k, none⟩ = some (.string (primNames.getD k ⟨#[]⟩)) := by
  rw [h.cell]
  match k, hk with
  | 0, _ => rfl
  | 1, _ => rfl
  | 2, _ => rfl
  | 3, _ => rfl
  | 4, _ => rfl
  | 5, _ => rfl
  | 6, _ => rfl
  | 7, _ => rfl
  | 8, _ => rfl
  | 9, _ => rfl
  | 10, _ => rfl
  | 11, _ => rfl
  | 12, _ => rfl
  | 13, _ => rfl
  | 14, _ => rfl
  | 15, _ => rfl
  | 16, _ => rfl
  | 17, _ => rfl
  | 18, _ => rfl
  | 19, _ => rfl
  | 20, _ => rfl
  | 21, _ => rfl
  | 22, _ => rfl
  | 23, _ => rfl
  | k + 24, h => omega
theorem spec_primname (k : Int) (h0 : -9223372036854775808 ≤ k) (h1 : k ≤ 9223372036854775807) (w : World) : Calls Try.prog 35 #[.int .i64 k] w fun e w' => e = .returned (.string (primN k)) ∧ Below w.heap.size w w' := by
  by_cases h : 0 ≤ k ∧ k ≤ 23
  · have HIN := Lib.hid (fun W => in_any k 0 23 W)
    rw [inB_true h.1 h.2] at HIN
    obtain ⟨n, rfl⟩ : ∃ n : Nat, k = n := ⟨k.toNat, by omega⟩
    have hn : n < 24 := by omega
    obtain ⟨nm, hnm⟩ : ∃ nm, primNames.getD n ⟨#[]⟩ = nm := ⟨_, rfl⟩
    have HE : Hid (primN (n : Int) = nm) := Lib.hid (by unfold primN; rw [if_pos h]; exact hnm)
    have HNM := Lib.hid hnm
    have g1 : (0 : Int) ≤ (n : Int) := by omega
    have g2 : (n : Int) < 24 := by omega
    clear h h0 h1 hnm
    rw [HE.out]
    go_enter Try.func35, Try.ntmps35
    go_wp2_with fail
    refine (names_any _).mono ?_
    rintro e w1 ⟨rfl, hb, hbl⟩
    have c0 := strs_cell hb hn
    rw [HNM.out] at c0
    have HB := Lib.hid hbl
    clear hb hbl
    go_wp2_with fail
    refine (HIN.out _).mono ?_
    rintro e w' ⟨rfl, rfl⟩
    go_wp2_with fail
    go_ret
    exact ⟨rfl, HB.out⟩
  · have HIN := Lib.hid (fun W => in_any k 0 23 W)
    rw [inB_false h] at HIN
    have HE : Hid (primN k = ⟨#[]⟩) := Lib.hid (by unfold primN; rw [if_neg h])
    clear h
    rw [HE.out]
    go_enter Try.func35, Try.ntmps35
    go_wp2_with fail
    refine (names_any _).mono ?_
    rintro e w1 ⟨rfl, hb, hbl⟩
    have HB := Lib.hid hbl
    clear hb hbl
    go_wp2_with fail
    refine (HIN.out _).mono ?_
    rintro e w' ⟨rfl, rfl⟩
    go_wp2_with fail
    go_ret
    exact ⟨rfl, HB.out⟩
theorem isbuiltin_any (k : Int) (w : World) : Calls Try.prog 51 #[.int .i64 k] w fun e w' => e = .returned (.bool (inB k 0 23)) ∧ w = w' := by
  by_cases h0 : 0 ≤ k
  · have h0' : decide (0 ≤ k) = true := by simpa using h0
    by_cases h1 : k ≤ 23
    · rw [inB_true h0 h1]
      have h2 : k < 24 := by omega
      go_enter Try.func51, Try.ntmps51
      go_wp2
      go_ret
      exact ⟨rfl, rfl⟩
    · rw [inB_false (by omega)]
      have h2 : ¬ k < 24 := by omega
      have h2' : decide (k < 24) = false := by simp; omega
      go_enter Try.func51, Try.ntmps51
      go_wp2
      go_ret
      exact ⟨rfl, rfl⟩
  · rw [inB_false (by omega)]
    have h0' : decide (0 ≤ k) = false := by simpa using h0
    go_enter Try.func51, Try.ntmps51
    go_wp2
    go_ret
    exact ⟨rfl, rfl⟩
end Go.Proofs.Ytofikgjoiidhmaa

namespace Go.Proofs.Ytofikgjoiidhmaa
open Go.RowKit Go

theorem step_append_src {P : Program} {ops : Array Oper} {o : Oper} {a : Act} {w : World} {K : Act → World → Prop} {Q : Exit → Act → World → Prop} {E : Prop} (hgd : o.guard = none) (s x : Operand) (t : TypeId)
    (ho : o.op = .call { callee := .builtin .append, args := #[s, x], argTypes := #[t, t] })
    (base : Nat) (e : TypeId) (i : TypeInfo) (z : Value) (size bytes : Nat) (ht : P.underlying t = some (.slice e)) (hi : P.info? e = some i) (hz : i.zero = some z)
    (hsize : i.size = size) (hby : i.bytes = bytes) (hzs : z.cells.size = size) (hsz : 0 < size)
    (v : Value) (n : Nat) (xs : List Value) (hs : a.eval s = v) (hown : w.ownsRow base e size v n xs)
    (u : Value) (m : Nat) (ys : List Value) (hx : a.eval x = u) (hsrc : SrcAt w size u m ys) (h1 : ∀ x ∈ ys, x.oneCell' = true)
    (h63 : n + m ≤ maxLen) (hbytes : (n + m) * bytes ≤ 140737488355328) (hbase : base ≤ w.heap.size)
    (h : ∀ v' w', w'.ownsRow base e size v' (n + m) (xs ++ ys) → Hid (AppAlt w w' v v' n m) → K (a.put o.dst v') w') :
    if Region.wanted o (yielded ops a.tmps) = true then Oper.wp P o a w K Q else E := by
  have hw : Region.wanted o (yielded ops a.tmps) = true := by simp [Region.wanted, hgd]
  rw [if_pos hw]
  obtain ⟨v', w', hrun, h2, h3⟩ := run_append_alt (P := P) base t o.type e i z size bytes ht hi hz hsize hby hzs hsz v n xs hown u m ys hsrc h1 h63 hbytes hbase
  unfold Oper.wp
  simp [execOp, ho, resolve, invoke, builtin, hs, hx, hrun, Result.andThen]
  exact h v' w' h2 (Lib.hid h3)
theorem slv_takeO : ∀ (xs : List (Int × Int)) (k : Nat), (slv xs).take (k * 2) = slv (xs.take k)
  | [], k => by simp [slv]
  | a :: r, 0 => by simp [slv]
  | a :: r, k + 1 => by
      rw [show (k + 1) * 2 = k * 2 + 1 + 1 by omega]
      simp only [List.take_succ_cons, slv, slv_takeO r k]
theorem own_formS {w : World} {base size : Nat} {e : TypeId} {v : Value} {n : Nat} {xs : List Value} (h : w.ownsRow base e size v n xs) : ∃ A cap, v = .slice A n cap := by
  rcases h.2 with ⟨rfl, h0⟩ | ⟨g, cap, cur, rfl, -⟩
  · exact ⟨none, 0, by rw [h0]⟩
  · exact ⟨_, _, rfl⟩
/-- A stack's box and its row. -/
structure StackAt (w : World) (lo g : Nat) (xs : List (Int × Int)) : Prop where
  val : ∃ v, Blk w g 95 #[v] ∧ w.ownsRow lo 75 2 v xs.length (slv xs)
  low : lo ≤ g
theorem box_neS {W : World} {g base size : Nat} {t e : TypeId} {cs : Array Value} {v : Value} {n : Nat} {xs : List Value} (hk : Blk W g t cs) (ho : W.ownsRow base e size v n xs) (ht : t ≠ e) : some g ≠ v.ownBlock := by
  rcases ho.2 with ⟨rfl, -⟩ | ⟨q, cap, cur, rfl, -, hq, -⟩
  · simp [Value.ownBlock]
  · intro h
    have h : g = q := by simpa [Value.ownBlock] using h
    subst h
    unfold Blk at hk
    rw [hk] at hq
    injection hq with h1
    injection h1 with _ h2
    exact ht h2
theorem StackAt.below {w w' : World} {lo g : Nat} {xs : List (Int × Int)} (h : StackAt w lo g xs) (hb : Below w.heap.size w w') : StackAt w' lo g xs := by
  obtain ⟨⟨v, h1, h2⟩, h3⟩ := h
  exact ⟨⟨v, h1.below hb h1.lt, h2.kept (row := none) ⟨hb.os, hb.tape, hb.output, hb.size, fun i hi _ => hb.block i hi⟩ (by cases v.ownBlock <;> simp)⟩, h3⟩
set_option maxRecDepth 100000 in
set_option maxHeartbeats 2000000 in
theorem push_any (lo g : Nat) (xs : List (Int × Int)) (s z : Int) (w : World) (hx : xs.length ≤ 1000) (hS : StackAt w lo g xs) :
    Calls Try.prog 70 #[.pointer (some ⟨g, 0, none⟩), .agg #[.int .i64 s, .int .i32 z]] w fun e w' => e = .returned (.tuple #[]) ∧ StackAt w' lo g (xs ++ [(s, z)]) ∧ Below lo w w' := by
  obtain ⟨⟨v, hB, hO⟩, hlo⟩ := hS
  obtain ⟨A, cap, rfl⟩ := own_formS hO
  obtain ⟨i0, hi0, hz0, hz1, hz2⟩ := info_parts infoS
  obtain ⟨n, hn⟩ : ∃ n, xs.length = n := ⟨_, rfl⟩
  rw [hn] at hO hB hx
  have hg : g < w.heap.size := hB.lt
  obtain ⟨W, hW⟩ : ∃ W, W = ((w.alloc (.cells #[.int .i64 s, .int .i32 z] 75)).alloc (.cells #[.int .i64 s, .int .i32 z] 75)).drew := ⟨_, rfl⟩
  have hWB0 : Below w.heap.size w W := by rw [hW]; exact (((below_alloc1 w _).alloc (below_alloc1 w _).size _)).drew
  have HWB := Lib.hid hWB0
  have SRC : Hid (SrcAt W 2 (.slice (some ⟨w.heap.size + 1, 0, none⟩) 1 1) 1 (slv [(s, z)])) := Lib.hid (by
    rw [hW]
    have hb := heap_alloc_new (w.alloc (.cells #[.int .i64 s, .int .i32 z] 75)) (.cells #[.int .i64 s, .int .i32 z] 75)
    rw [World.size_alloc] at hb
    refine ⟨_, _, rfl, rfl, (by simp), ?_⟩
    intro a ha j x hj
    injection ha with ha
    subst ha
    rw [addr_lit, Nat.zero_add]
    show World.cell? ((w.alloc (.cells #[.int .i64 s, .int .i32 z] 75)).alloc (.cells #[.int .i64 s, .int .i32 z] 75)) _ = _
    rw [cell_of_row _ _ j _ _ _ hb]
    simpa [slv] using hj)
  have OD2 : Hid (W.ownsRow lo 75 2 (.slice A n cap) n (slv xs)) := Lib.hid (hO.kept (row := none) ⟨hWB0.os, hWB0.tape, hWB0.output, hWB0.size, fun i hi _ => hWB0.block i hi⟩ (by cases (Value.slice A n cap).ownBlock <;> simp))
  have KBW : Hid (Blk W g 95 #[.slice A n cap]) := Lib.hid (hB.below hWB0 hB.lt)
  have hsW : lo ≤ W.heap.size := by have := hWB0.size; omega
  have HSW := Lib.hid hsW
  have HLO := Lib.hid hlo
  have hne : some g ≠ (Value.slice A n cap).ownBlock := box_neS KBW.out OD2.out (by decide)
  have HNE := Lib.hid hne
  have HW := Lib.hid hW
  have HLT : Hid (∀ k, (Value.slice A n cap).ownBlock = some k → lo ≤ k) := Lib.hid (fun k hk => (World.ownsRow.lt hO k hk).1)
  have p0 : w.cell? ⟨g, 0, none⟩ = some (.slice A n cap) := hB.cell 0
  have f0 := hB.frozen
  have f1 := f0 0
  have HN := Lib.hid hn
  have e1 : n + 1 ≤ maxLen := by unfold maxLen; omega
  have e2 : (n + 1) * 16 ≤ 140737488355328 := by omega
  clear hO hB hn hsW hne hW hlo f0 hWB0 hx
  go_enter Try.func70, Try.ntmps70
  go_wp2_with fail
  go_region_law (rw [← HW.out]; refine step_append_src rfl _ _ 95 rfl lo 75 i0 (.agg #[.int .i64 0, .int .i32 0]) 2 16 Try.underlying95 hi0 hz0 hz1 hz2 rfl (by decide) (.slice A n cap) n (slv xs) rfl OD2.out (.slice (some ⟨w.heap.size + 1, 0, none⟩) 1 1) 1 (slv [(s, z)]) rfl SRC.out slv_one e1 e2 HSW.out ?_; intro v' w2 hown halt; obtain ⟨D, dc, hv⟩ := own_formS hown; subst hv; have HO2 := Lib.hid hown; have KB2 := Lib.hid (KBW.out.grown halt.out.grown HNE.out); clear hown; clear p0 f1; have hg2 := KB2.out.lt; have p0 : w2.cell? ⟨g, 0, none⟩ = some (.slice A n cap) := KB2.out.cell 0; have f1 := KB2.out.frozen 0)
  all_goals
    have HE : Hid (StackAt (w2.setCell ⟨g, 0, none⟩ (.slice D (n + 1) dc)) lo g (xs ++ [(s, z)]) ∧ Below lo w (w2.setCell ⟨g, 0, none⟩ (.slice D (n + 1) dc))) := Lib.hid (by
      have hlen : (xs ++ [(s, z)]).length = n + 1 := by rw [List.length_append, HN.out]; rfl
      have hown2 : w2.ownsRow lo 75 2 (.slice D (n + 1) dc) (n + 1) (slv (xs ++ [(s, z)])) := by rw [slv_app]; exact HO2.out
      have hned : (Value.slice D (n + 1) dc).ownBlock = none ∨ (Value.slice D (n + 1) dc).ownBlock ≠ some g := .inr fun e => box_neS KB2.out hown2 (by decide) e.symm
      have hgr := halt.out.grown
      refine ⟨⟨⟨.slice D (n + 1) dc, by have := KB2.out.put 0 (.slice D (n + 1) dc); simpa using this, ?_⟩, HLO.out⟩, ?_⟩
      · rw [hlen]
        exact hown2.kept (row := some g) (only_setCell (World.grownBy.refl _ _) (.inl rfl) _) hned
      · have h1 : Below lo w w2 := ⟨hgr.os.trans HWB.out.os, hgr.tape.trans HWB.out.tape, hgr.output.trans HWB.out.output, Nat.le_trans HWB.out.size hgr.size, fun k hk => by
          have hkw : k < w.heap.size := by have := HLO.out; omega
          exact (hgr.block k (Nat.lt_of_lt_of_le hkw HWB.out.size) (fun e => by have := HLT.out k e.symm; omega)).trans (HWB.out.block k hkw)⟩
        exact h1.setCell (p := ⟨g, 0, none⟩) HLO.out _)
    go_wp2_with fail
    go_end0
    exact ⟨rfl, HE.out⟩
/-- The last op of a stack. -/
theorem stack_top {w : World} {lo k cap : Nat} {A : Option Addr} {xs : List (Int × Int)} (h : w.ownsRow lo 75 2 (.slice A (k + 1) cap) (k + 1) (slv xs)) : ∃ q s z, A = some ⟨q, 0, none⟩ ∧ k + 1 ≤ cap ∧ q < w.heap.size ∧ lo ≤ q ∧ xs = xs.take k ++ [(s, z)] ∧ w.cell? ⟨q, k * 2, none⟩ = some (.int .i64 s) ∧ w.cell? ⟨q, k * 2 + 1, none⟩ = some (.int .i32 z) ∧ w.ownsRow lo 75 2 (.slice A k cap) k (slv (xs.take k)) := by
  have hl := h.1
  rw [slv_len] at hl
  have hxl : xs.length = k + 1 := by omega
  rcases h.2 with ⟨e1, h0⟩ | ⟨q, cp, cur, e1, hlo, hrow, hle, hm, hsz, ht⟩
  · omega
  · injection e1 with e1 e2 e3
    subst e1 e3
    have hk : k < xs.length := by omega
    have hcell : ∀ j u, j < 2 → (slv xs)[k * 2 + j]? = some u → w.cell? ⟨q, k * 2 + j, none⟩ = some u := fun j u hj hu => by
      rw [cell_of_row w q (k * 2 + j) cur 75 (0, 0) hrow]
      have h1 := congrArg (·[k * 2 + j]?) ht
      simp only [hu, List.getElem?_take] at h1
      rw [if_pos (by omega)] at h1
      simpa using h1
    refine ⟨q, (xs[k]).1, (xs[k]).2, rfl, hle, (Array.getElem?_eq_some_iff.1 hrow).1, hlo, ?_, hcell 0 _ (by omega) (slv_get0 hk), hcell 1 _ (by omega) (slv_get1 hk), ⟨by rw [slv_len, List.length_take]; omega, .inr ⟨q, cap, cur, rfl, hlo, hrow, by omega, hm, hsz, ?_⟩⟩⟩
    · have e := List.take_append_drop k xs
      rw [List.drop_eq_getElem_cons hk, List.drop_of_length_le (by omega)] at e
      exact e.symm
    · have h2 := congrArg (List.take (k * 2)) ht
      rw [List.take_take, show min (k * 2) ((k + 1) * 2) = k * 2 by omega] at h2
      rw [h2, slv_takeO]
set_option maxRecDepth 100000 in
set_option maxHeartbeats 2000000 in
theorem pop_any (lo g : Nat) (xs : List (Int × Int)) (k : Nat) (hk : xs.length = k + 1) (hx : k ≤ 1000) (w : World) (hS : StackAt w lo g xs) :
    Calls Try.prog 68 #[.pointer (some ⟨g, 0, none⟩)] w fun e w' => ∃ s z, e = .returned (.agg #[.int .i64 s, .int .i32 z]) ∧ xs = xs.take k ++ [(s, z)] ∧ StackAt w' lo g (xs.take k) ∧ Below lo w w' ∧ w.grownBy w' (some g) := by
  obtain ⟨⟨v, hB, hO⟩, hlo⟩ := hS
  obtain ⟨A, cap, rfl⟩ := own_formS hO
  rw [hk] at hO hB
  obtain ⟨q, s, z, rfl, hcap, hq, hloq, hxs, c0, c1, hO2⟩ := stack_top hO
  have hg : g < w.heap.size := hB.lt
  have p0 : w.cell? ⟨g, 0, none⟩ = some (.slice (some ⟨q, 0, none⟩) (k + 1) cap) := hB.cell 0
  have f0 := hB.frozen
  have f1 := f0 0
  have i1 : (0 : Int) ≤ (k : Int) := by omega
  have i2 : (k : Int) < (k : Int) + 1 := by omega
  have i3 : k ≤ cap := by omega
  have i4 : (k : Int) ≤ (cap : Int) := by omega
  have wz : IntKind.i64.wrap ((k : Int) + 1 - 1) = (k : Int) := by rw [show (k : Int) + 1 - 1 = (k : Int) by omega]; exact IntWalk.i64_in _ (by omega)
  have wy : (k : Int) + 1 - 1 = (k : Int) := by omega
  have wk : IntKind.i64.wrap (k : Int) = (k : Int) := IntWalk.i64_in _ (by omega)
  have hlen : (xs.take k).length = k := by rw [List.length_take]; omega
  have HE : Hid (∀ W, Below w.heap.size w W → xs = xs.take k ++ [(s, z)] ∧ StackAt (W.setCell ⟨g, 0, none⟩ (.slice (some ⟨q, 0, none⟩) k cap)) lo g (xs.take k) ∧ Below lo w (W.setCell ⟨g, 0, none⟩ (.slice (some ⟨q, 0, none⟩) k cap))) := Lib.hid (fun W hW => by
    have hb2 := hB.below hW hB.lt
    have ho2 : W.ownsRow lo 75 2 (.slice (some ⟨q, 0, none⟩) k cap) k (slv (xs.take k)) := hO2.kept (row := none) ⟨hW.os, hW.tape, hW.output, hW.size, fun i hi _ => hW.block i hi⟩ (.inr (by simp [Value.ownBlock]))
    have hne : (Value.slice (some ⟨q, 0, none⟩) k cap).ownBlock = none ∨ (Value.slice (some ⟨q, 0, none⟩) k cap).ownBlock ≠ some g := .inr fun e => box_neS hb2 ho2 (by decide) e.symm
    refine ⟨hxs, ⟨⟨.slice (some ⟨q, 0, none⟩) k cap, by have := hb2.put 0 (.slice (some ⟨q, 0, none⟩) k cap); simpa using this, ?_⟩, hlo⟩, ?_⟩
    · rw [hlen]
      exact ho2.kept (row := some g) (only_setCell (World.grownBy.refl _ _) (.inl rfl) _) hne
    · exact (hW.mono (by omega)).setCell (p := ⟨g, 0, none⟩) hlo _)
  have HLQ : Hid (lo ≤ w.heap.size) := Lib.hid (by omega)
  clear hO hB hxs hlo hloq hO2 f0 hk hlen hx
  go_enter Try.func68, Try.ntmps68
  go_wp2_with fail
  obtain ⟨e1, e2, e3⟩ := HE.out w (Below.refl _ _)
  have hsz : lo ≤ (w.setCell ⟨g, 0, none⟩ (.slice (some ⟨q, 0, none⟩) k cap)).heap.size := by rw [World.size_setCell]; exact HLQ.out
  have b1 := below_alloc1 (w.setCell ⟨g, 0, none⟩ (.slice (some ⟨q, 0, none⟩) k cap)) (.cells #[.int .i64 s, .int .i32 z] 75)
  have b2 := b1.alloc b1.size (.cells #[.int .i64 s, .int .i32 z] 75)
  exact bodyPost_ret (v := .agg #[.int .i64 s, .int .i32 z]) (by simp [results, Try.results68, go_sem]) rfl ⟨s, z, rfl, e1, e2.below b2, e3.trans (b2.mono hsz), only_trans (only_setCell (World.grownBy.refl _ _) (.inl rfl) _) (only_of_below b2 (some g))⟩
/-- The top of a stack is taken. -/
theorem pop_last (lo g : Nat) (xs : List (Int × Int)) (s z : Int) (hx : xs.length ≤ 1000) (w : World) (hS : StackAt w lo g (xs ++ [(s, z)])) :
    Calls Try.prog 68 #[.pointer (some ⟨g, 0, none⟩)] w fun e w' => e = .returned (.agg #[.int .i64 s, .int .i32 z]) ∧ StackAt w' lo g xs ∧ Below lo w w' ∧ w.grownBy w' (some g) := by
  have ht : (xs ++ [(s, z)]).take xs.length = xs := by simp
  refine (pop_any lo g (xs ++ [(s, z)]) xs.length (by simp) hx w hS).mono ?_
  rintro e w' ⟨s2, z2, rfl, h1, h2, h3, h4⟩
  rw [ht] at h1 h2
  have h5 := List.append_cancel_left h1
  injection h5 with h5 _
  injection h5 with h5 h6
  subst h5 h6
  exact ⟨rfl, h2, h3, h4⟩
end Go.Proofs.Ytofikgjoiidhmaa

namespace Go.Proofs.Ytofikgjoiidhmaa
open Go.RowKit Go

set_option maxHeartbeats 1000000 in
/-- How much is left behind a body. -/
theorem sz_ops (A : Option Addr) (n cap : Nat) (left : Int) (h0 : 0 ≤ left) (h1 : left ≤ 1048576) (hn : n ≤ 9223372036854775807) (w : World) : Calls Try.prog 38 #[.slice A n cap, .int .i64 left] w fun e w' => (∃ z, e = .returned (.int .i64 z) ∧ (z = -1 ∨ (0 ≤ z ∧ z ≤ left ∧ n ≤ 1048576))) ∧ Below w.heap.size w w' := by
  by_cases hl : (n : Int) ≤ left
  · have hz : ¬ (left - (n : Int)) < 0 := by omega
    have HE : Hid (0 ≤ left - (n : Int) ∧ left - (n : Int) ≤ left ∧ n ≤ 1048576) := Lib.hid (by omega)
    go_enter Try.func38, Try.ntmps38
    go_wp2_with fail
    go_ret
    exact ⟨⟨_, rfl, .inr HE.out⟩, by go_grown⟩
  · have hz : (left - (n : Int)) < 0 := by omega
    have hz2 : (n : Int) ≤ 9223372036854775807 := by omega
    have hz3 : left < (n : Int) := by omega
    go_enter Try.func38, Try.ntmps38
    go_wp2_with fail
    go_ret
    exact ⟨⟨_, rfl, .inl rfl⟩, by go_grown⟩
set_option maxHeartbeats 2000000 in
theorem sz_def (nm : ByteArray) (A : Option Addr) (n cap : Nat) (left : Int) (h0 : 0 ≤ left) (h1 : left ≤ 1048576) (hs : nm.size ≤ 9223372036854775807) (hn : n ≤ 9223372036854775807) (w : World) : Calls Try.prog 21 #[.agg #[.string nm, .slice A n cap], .int .i64 left] w fun e w' => (∃ z, e = .returned (.int .i64 z) ∧ (z = -1 ∨ (0 ≤ z ∧ z ≤ left ∧ nm.size ≤ 1048576 ∧ n ≤ 1048576))) ∧ Below w.heap.size w w' := by
  obtain ⟨m, hm⟩ : ∃ m, nm.size = m := ⟨_, rfl⟩
  by_cases hl : (nm.size : Int) ≤ left
  · have hz : ¬ (left - (nm.size : Int)) < 0 := by omega
    have HC := Lib.hid (fun W => sz_ops A n cap (left - (nm.size : Int)) (by omega) (by omega) hn W)
    have HLE : Hid (nm.size ≤ 1048576) := Lib.hid (by omega)
    have HBX := Lib.hid (below_alloc1 w (.cells #[.string nm, .slice A n cap] 45))
    clear hm hn hs h0
    go_enter Try.func21, Try.ntmps21
    go_wp2_with fail
    refine (HC.out _).mono ?_
    rintro e w2 ⟨⟨z, rfl, rfl | ⟨g1, g2, g3⟩⟩, hb2⟩
    · have HB2 := Lib.hid (HBX.out.trans (hb2.mono HBX.out.size))
      clear hb2
      go_wp2_with fail
      go_ret
      exact ⟨⟨_, rfl, .inl rfl⟩, HB2.out⟩
    · have HB2 := Lib.hid (HBX.out.trans (hb2.mono HBX.out.size))
      have hz2 : ¬ z < 0 := by omega
      have HE : Hid (0 ≤ z ∧ z ≤ left ∧ nm.size ≤ 1048576 ∧ n ≤ 1048576) := Lib.hid ⟨g1, by omega, HLE.out, g3⟩
      clear hb2 g1 g2 g3
      go_wp2_with fail
      go_ret
      exact ⟨⟨_, rfl, .inr HE.out⟩, HB2.out⟩
  · have hz : (left - (nm.size : Int)) < 0 := by omega
    have hz3 : left < (nm.size : Int) := by omega
    have hz2 : (nm.size : Int) ≤ 9223372036854775807 := by omega
    clear hm hn
    go_enter Try.func21, Try.ntmps21
    go_wp2_with fail
    go_ret
    exact ⟨⟨_, rfl, .inl rfl⟩, by go_grown⟩
set_option maxHeartbeats 4000000 in
theorem sz_defs (A : Option Addr) (N cap : Nat) (hN : N ≤ 9223372036854775807) (f : Nat → ByteArray × Option Addr × Nat × Nat) (w : World) (hf : ∀ i, i < N → ∃ a, A = some a ∧ a.block < w.heap.size ∧ w.cell? (a.add (i * 2)) = some (.string (f i).1) ∧ w.cell? ((a.add (i * 2)).add 1) = some (.slice (f i).2.1 (f i).2.2.1 (f i).2.2.2) ∧ (f i).1.size ≤ 9223372036854775807 ∧ OpsIn w (f i).2.1 (f i).2.2.1 (f i).2.2.2) :
    Calls Try.prog 5 #[.slice A N cap, .int .i64 1048576] w fun e w' => (∃ z, e = .returned (.int .i64 z) ∧ (z = -1 ∨ (0 ≤ z ∧ N ≤ 1048576 ∧ ∀ i, i < N → (f i).1.size ≤ 1048576 ∧ (f i).2.2.1 ≤ 1048576))) ∧ Below w.heap.size w w' := by
  by_cases hl : N ≤ 1048576
  · have HF := Lib.hid hf
    have hz : ¬ (1048576 - (N : Int)) < 0 := by omega
    have hz2 : (N : Int) ≤ 1048576 := by omega
    clear hf hN
    go_enter Try.func5, Try.ntmps5
    go_wp2_with fail
    go_loopw [1, 5] (fun vl vi wr => ∃ (i : Nat) (left : Int), vi = .int .i64 i ∧ vl = .int .i64 left ∧ i ≤ N ∧ 0 ≤ left ∧ left ≤ 1048576 ∧ Hid (∀ j, j < i → (f j).1.size ≤ 1048576 ∧ (f j).2.2.1 ≤ 1048576) ∧ Hid (Below w.heap.size w wr)) (fun _ vi _ => N - (intOf vi).toNat)
    case atStart => exact ⟨0, _, rfl, rfl, by omega, by omega, by omega, Lib.hid (fun j hj => by omega), Lib.hid (Below.refl _ _)⟩
    case round =>
      obtain ⟨i, left, rfl, rfl, hi, hl0, hl1, HS, HB⟩ := hrel
      by_cases hp : i < N
      · obtain ⟨a, rfl, la, p0, p1, q1, q2⟩ := HF.out i hp
        obtain ⟨fn, hfn⟩ : ∃ fn, f i = fn := ⟨_, rfl⟩
        obtain ⟨nm, B, m, bc⟩ := fn
        have HFN := Lib.hid hfn
        rw [hfn] at p0 p1 q1 q2
        have p0' : wr.cell? (a.add (i * 2)) = some (.string nm) := (HB.out.cell (by rw [addr_addb]; exact la)).trans p0
        have p1' : wr.cell? ⟨(a.add (i * 2)).block, (a.add (i * 2)).off + 1, none⟩ = some (.slice B m bc) := (HB.out.cell (p := ⟨(a.add (i * 2)).block, (a.add (i * 2)).off + 1, none⟩) (by show (a.add (i * 2)).block < _; rw [addr_addb]; exact la)).trans p1
        have HC := Lib.hid (fun W => sz_def nm B m bc left hl0 hl1 q1 q2.1 W)
        have i1 : (0 : Int) ≤ (i : Int) := by omega
        have i2 : (i : Int) < (N : Int) := by omega
        clear p0 p1 q1 q2 la hfn
        go_wp2_with fail
        refine (HC.out _).mono ?_
        rintro e w2 ⟨⟨z, rfl, rfl | ⟨g1, g2, g3, g4⟩⟩, hb2⟩
        · have HB2 := Lib.hid (HB.out.trans (hb2.mono HB.out.size))
          clear hb2 HB HS
          go_wp2_with fail
          go_ret
          exact ⟨⟨_, rfl, .inl rfl⟩, HB2.out⟩
        · have HB2 := Lib.hid (HB.out.trans (hb2.mono HB.out.size))
          have hz3 : ¬ z < 0 := by omega
          have HS2 : Hid (∀ j, j < i + 1 → (f j).1.size ≤ 1048576 ∧ (f j).2.2.1 ≤ 1048576) := Lib.hid (fun j hj => by
            by_cases hji : j < i
            · exact HS.out j hji
            · obtain rfl : j = i := by omega
              rw [HFN.out]
              exact ⟨g3, g4⟩)
          have HZ : Hid (0 ≤ z ∧ z ≤ 1048576) := Lib.hid (by omega)
          clear hb2 HB HS g1 g2 g3 g4
          go_wp2_with fail
          go_roundw
          case rel => exact ⟨i + 1, z, by go_num, rfl, by omega, HZ.out.1, HZ.out.2, HS2, HB2⟩
          case measure => simp [intOf]; omega
      · obtain rfl : i = N := by omega
        go_wp2_with fail
        go_ret
        exact ⟨⟨_, rfl, .inr ⟨hl0, hl, HS.out⟩⟩, HB.out⟩
  · have hz : (1048576 - (N : Int)) < 0 := by omega
    have hz3 : (1048576 : Int) < (N : Int) := by omega
    have hz2 : (N : Int) ≤ 9223372036854775807 := by omega
    clear hf
    go_enter Try.func5, Try.ntmps5
    go_wp2_with fail
    go_ret
    exact ⟨⟨_, rfl, .inl rfl⟩, by go_grown⟩
set_option maxHeartbeats 2000000 in
theorem eq_def (nm : ByteArray) (B1 B2 : Option Addr) (m b1 b2 : Nat) (xs : List (Int × Int)) (w : World) (h1 : RdS w (.slice B1 m b1) xs) (h2 : RdS w (.slice B2 m b2) xs) : Calls Try.prog 31 #[.agg #[.string nm, .slice B1 m b1], .agg #[.string nm, .slice B2 m b2]] w fun e w' => e = .returned (.bool true) ∧ Below w.heap.size w w' := by
  have q0 : (!(nm.toList == nm.toList)) = false := by simp
  have q1 : (nm.toList == nm.toList) = true := by simp
  have hbx : Below w.heap.size w ((w.alloc (.cells #[.string nm, .slice B1 m b1] 52)).alloc (.cells #[.string nm, .slice B2 m b2] 52)) := (below_alloc1 w _).alloc (below_alloc1 w _).size _
  have HBX := Lib.hid hbx
  have HC := Lib.hid (fun W (h : Below w.heap.size w W) => eqS_same (.slice B1 m b1) (.slice B2 m b2) xs W (h1.below h) (h2.below h))
  clear hbx h1 h2
  go_enter Try.func31, Try.ntmps31
  go_wp2_with fail
  refine (HC.out _ HBX.out).mono ?_
  rintro e w2 ⟨rfl, hb2⟩
  have HB2 := Lib.hid (HBX.out.trans (hb2.mono HBX.out.size))
  clear hb2 HBX HC
  go_wp2_with fail
  go_ret
  exact ⟨rfl, HB2.out⟩
set_option maxHeartbeats 4000000 in
theorem eqD_same (a b : Value) (ds : List Df) (hl : ds.length ≤ 1048576) (w : World) (ha : RdD w a ds) (hb : RdD w b ds) :
    Calls Try.prog 11 #[a, b] w fun e w' => e = .returned (.bool true) ∧ Below w.heap.size w w' := by
  obtain ⟨A, ca, rfl⟩ := ha.form
  obtain ⟨B, cb, rfl⟩ := hb.form
  have HA := Lib.hid (fun W (h : Below w.heap.size w W) => ha.below h)
  have HB := Lib.hid (fun W (h : Below w.heap.size w W) => hb.below h)
  clear ha hb
  have hl' : ((ds.length : Int) != (ds.length : Int)) = false := by simp
  go_enter Try.func11, Try.ntmps11
  go_wp2
  go_loopw [5] (fun vi wr => ∃ i : Nat, vi = .int .i64 i ∧ i ≤ ds.length ∧ Hid (Below w.heap.size w wr)) (fun vi _ => ds.length - (intOf vi).toNat)
  case atStart => exact ⟨0, rfl, by omega, Lib.hid (Below.refl _ _)⟩
  case round =>
    obtain ⟨i, rfl, hi, HW⟩ := hrel
    by_cases hp : i < ds.length
    · obtain ⟨a, B1, m1, c1, rfl, la, p0, p1, r1, e1⟩ := (HA.out wr HW.out).item hp
      obtain ⟨b, B2, m2, c2, rfl, lb, q0, q1, r2, e2⟩ := (HB.out wr HW.out).item hp
      obtain ⟨x, hx⟩ : ∃ x, ds[i] = x := ⟨_, rfl⟩
      obtain ⟨nm, xs⟩ := x
      rw [hx] at p0 q0 r1 r2 e1 e2
      simp only at p0 q0 r1 r2 e1 e2
      obtain rfl : m1 = m2 := e1.trans e2.symm
      have R1 := Lib.hid (fun W (h : Below wr.heap.size wr W) => r1.below h)
      have R2 := Lib.hid (fun W (h : Below wr.heap.size wr W) => r2.below h)
      have LA : Hid ((a.add (i * 2)).block < wr.heap.size) := Lib.hid (by rw [addr_addb]; exact la)
      have LB : Hid ((b.add (i * 2)).block < wr.heap.size) := Lib.hid (by rw [addr_addb]; exact lb)
      have i1 : (0 : Int) ≤ (i : Int) := by omega
      have i2 : (i : Int) < (ds.length : Int) := by omega
      clear hx la lb r1 r2 e1 e2
      go_wp2_with fail
      go_region_held3 (fun w' => w'.cell? (a.add (i * 2)) = some (.string nm) ∧ w'.cell? ⟨(a.add (i * 2)).block, (a.add (i * 2)).off + 1, none⟩ = some (.slice B1 m1 c1) ∧ w'.cell? (b.add (i * 2)) = some (.string nm) ∧ w'.cell? ⟨(b.add (i * 2)).block, (b.add (i * 2)).off + 1, none⟩ = some (.slice B2 m1 c2)) (first | exact ⟨p0, p1, q0, q1⟩ | go_keep | exact ⟨(hbV.cell LA.out).trans p0, (hbV.cell (p := ⟨(a.add (i * 2)).block, (a.add (i * 2)).off + 1, none⟩) LA.out).trans p1, (hbV.cell LB.out).trans q0, (hbV.cell (p := ⟨(b.add (i * 2)).block, (b.add (i * 2)).off + 1, none⟩) LB.out).trans q1⟩) ((go_at_call 31; refine (eq_def nm B1 B2 m1 c1 c2 xs _ (by first | exact R1.out _ (Below.refl _ _) | exact R1.out _ (Below.refl _ _).drew) (by first | exact R2.out _ (Below.refl _ _) | exact R2.out _ (Below.refl _ _).drew)).mono ?_; rintro e V ⟨rfl, hbV⟩))
      have HW2 := Lib.hid (HW.out.trans (((Below.refl wr.heap.size wr).drew.trans hbV).mono HW.out.size))
      clear hbV HW p0 p1 q0 q1 R1 R2
      go_wp2_with fail
      go_roundw
      case rel => exact ⟨i + 1, by go_num, by omega, HW2⟩
      case measure => simp [intOf]; omega
    · go_wp2
      go_ret
      exact ⟨rfl, HW.out⟩
theorem own_putD {w : World} {base size : Nat} {e : TypeId} {v : Value} {n : Nat} {xs : List Value} (h : w.ownsRow base e size v n xs) {p : Addr} (hp : p.block < base) (u : Value) : (w.setCell p u).ownsRow base e size v n xs :=
  h.kept (row := some p.block) (only_setCell (World.grownBy.refl _ _) (.inl rfl) _) (.inr fun e => by have := (World.ownsRow.lt h _ e).1; omega)
set_option maxRecDepth 100000 in
set_option maxHeartbeats 4000000 in
theorem to_def (nm : ByteArray) (B : Option Addr) (m c : Nat) (xs : List (Int × Int)) (hx : xs.length ≤ 1048576) (w : World) (hr : RdS w (.slice B m c) xs) : Calls Try.prog 26 #[.agg #[.string nm, .slice B m c]] w fun e w' => ∃ v, e = .returned (.agg #[.string nm, v]) ∧ w'.ownsRow w.heap.size 75 2 v xs.length (slv xs) ∧ Below w.heap.size w w' := by
  obtain ⟨W3, hW3⟩ : ∃ W, W = (((w.alloc (.cells #[.string nm, .slice B m c] 45)).alloc (.cells #[.string ⟨#[]⟩, .slice none 0 0] 52)).alloc (.cells #[.string nm, .slice none 0 0] 52)) := ⟨_, rfl⟩
  have b1 := below_alloc1 w (.cells #[.string nm, .slice B m c] 45)
  have b2 := b1.alloc b1.size (.cells #[.string ⟨#[]⟩, .slice none 0 0] 52)
  have b3 := b2.alloc b2.size (.cells #[.string nm, .slice none 0 0] 52)
  have k2 := (Blk.new (w.alloc (.cells #[.string nm, .slice B m c] 45)) 52 #[.string ⟨#[]⟩, .slice none 0 0]).alloc (.cells #[.string nm, .slice none 0 0] 52)
  have k3 := Blk.new ((w.alloc (.cells #[.string nm, .slice B m c] 45)).alloc (.cells #[.string ⟨#[]⟩, .slice none 0 0] 52)) 52 #[.string nm, .slice none 0 0]
  rw [← hW3] at b3 k2 k3
  rw [World.size_alloc] at k2 k3
  rw [World.size_alloc] at k3
  have hsz3 : W3.heap.size = w.heap.size + 3 := by rw [hW3, World.size_alloc, World.size_alloc, World.size_alloc]
  have HW3 := Lib.hid hW3
  have B3 := Lib.hid b3
  have K2 := Lib.hid k2
  have K3 := Lib.hid k3
  have HS3 := Lib.hid hsz3
  have HC := Lib.hid (toS_any (.slice B m c) xs (by omega) W3 (hr.below b3))
  clear hr hW3 b1 b2 b3 k2 k3 hsz3
  go_enter Try.func26, Try.ntmps26
  go_wp2_with fail
  rw [← HW3.out]
  refine HC.out.mono ?_
  rintro e w4 ⟨v4, rfl, ho4, hb4⟩
  obtain ⟨D, dc, rfl⟩ := own_formS ho4
  have q2 := K2.out.below hb4 K2.out.lt
  have q3 := K3.out.below hb4 K3.out.lt
  have p3_0 : w4.cell? ⟨w.heap.size + 1 + 1, 0, none⟩ = some (.string nm) := q3.cell 0
  have p3_1 : w4.cell? ⟨w.heap.size + 1 + 1, 1, none⟩ = some (.slice none 0 0) := q3.cell 1
  have p2_0 : w4.cell? ⟨w.heap.size + 1, 0, none⟩ = some (.string ⟨#[]⟩) := q2.cell 0
  have p2_1 : w4.cell? ⟨w.heap.size + 1, 1, none⟩ = some (.slice none 0 0) := q2.cell 1
  have f3 := q3.frozen
  have f2 := q2.frozen
  have l3 := q3.lt
  have Q2 := Lib.hid q2
  have HO4 := Lib.hid ho4
  have B4 := Lib.hid (B3.out.trans (hb4.mono B3.out.size))
  clear ho4 hb4 q2 q3 HC
  go_wp2_with fail
  have r2 : Blk (((w4.setCell ⟨w.heap.size + 1 + 1, 1, none⟩ (.slice D xs.length dc)).setCell ⟨w.heap.size + 1, 0, none⟩ (.string nm)).setCell ⟨w.heap.size + 1, 1, none⟩ (.slice D xs.length dc)) (w.heap.size + 1) 52 #[.string nm, .slice D xs.length dc] := by
    have := ((Q2.out.far (p := ⟨w.heap.size + 1 + 1, 1, none⟩) (show w.heap.size + 1 ≠ w.heap.size + 1 + 1 by omega) (.slice D xs.length dc)).put 0 (.string nm)).put 1 (.slice D xs.length dc)
    simpa using this
  have o5 := own_putD (own_putD (own_putD HO4.out (p := ⟨w.heap.size + 1 + 1, 1, none⟩) (show w.heap.size + 1 + 1 < W3.heap.size by rw [HS3.out]; omega) (.slice D xs.length dc)) (p := ⟨w.heap.size + 1, 0, none⟩) (show w.heap.size + 1 < W3.heap.size by rw [HS3.out]; omega) (.string nm)) (p := ⟨w.heap.size + 1, 1, none⟩) (show w.heap.size + 1 < W3.heap.size by rw [HS3.out]; omega) (.slice D xs.length dc)
  have b5 := ((B4.out.setCell (p := ⟨w.heap.size + 1 + 1, 1, none⟩) (show w.heap.size ≤ w.heap.size + 1 + 1 by omega) (.slice D xs.length dc)).setCell (p := ⟨w.heap.size + 1, 0, none⟩) (show w.heap.size ≤ w.heap.size + 1 by omega) (.string nm)).setCell (p := ⟨w.heap.size + 1, 1, none⟩) (show w.heap.size ≤ w.heap.size + 1 by omega) (.slice D xs.length dc)
  have hle : w.heap.size ≤ W3.heap.size := by rw [HS3.out]; omega
  clear p3_0 p3_1 p2_0 p2_1 f2 f3 l3
  show bodyPost _ _ _ _ _ (((w4.setCell ⟨w.heap.size + 1 + 1, 1, none⟩ (.slice D xs.length dc)).setCell ⟨w.heap.size + 1, 0, none⟩ (.string nm)).setCell ⟨w.heap.size + 1, 1, none⟩ (.slice D xs.length dc))
  generalize (((w4.setCell ⟨w.heap.size + 1 + 1, 1, none⟩ (.slice D xs.length dc)).setCell ⟨w.heap.size + 1, 0, none⟩ (.string nm)).setCell ⟨w.heap.size + 1, 1, none⟩ (.slice D xs.length dc)) = W5 at r2 o5 b5 ⊢
  have z0 : W5.cell? ⟨w.heap.size + 1, 0, none⟩ = some (.string nm) := r2.cell 0
  have z1 : W5.cell? ⟨w.heap.size + 1, 1, none⟩ = some (.slice D xs.length dc) := r2.cell 1
  exact bodyPost_ret (v := .agg #[.string nm, .slice D xs.length dc]) (by simp [results, Try.results26, z0, z1, go_sem]) rfl ⟨_, rfl, o5.mono hle, b5⟩
theorem infoD : (Try.prog.info? 52).map (fun i => (i.zero, i.size, i.bytes)) = some (some (.agg #[.string ⟨#[]⟩, .slice none 0 0]), 2, 40) := by kernel_rfl
theorem made_dfv (n : Nat) : (madeCells #[Value.string ⟨#[]⟩, Value.slice none 0 0] (n * 2)).toList = dfv (List.replicate n (⟨#[]⟩, Value.slice none 0 0)) := by
  refine List.ext_getElem (by simp [madeCells, dfv_len]) fun i h1 h2 => ?_
  have h3 : i < n * 2 := by simpa [madeCells] using h1
  obtain ⟨j, hj⟩ : ∃ j, i = j * 2 ∨ i = j * 2 + 1 := ⟨i / 2, by omega⟩
  rcases hj with rfl | rfl
  · have := dfv_get0 (xs := List.replicate n (⟨#[]⟩, Value.slice none 0 0)) (i := j) (by simp; omega)
    rw [List.getElem?_eq_getElem h2] at this
    rw [Option.some.inj this]
    simp [madeCells]
  · have := dfv_get1 (xs := List.replicate n (⟨#[]⟩, Value.slice none 0 0)) (i := j) (by simp; omega)
    rw [List.getElem?_eq_getElem h2] at this
    rw [Option.some.inj this]
    have e : (j * 2 + 1) % 2 = 1 := by omega
    simp [madeCells, e]
/-- So many definitions as they are laid first. -/
abbrev zdf (n : Nat) : List (ByteArray × Value) := List.replicate n (⟨#[]⟩, Value.slice none 0 0)
theorem zdf_set {ps : List (ByteArray × Value)} {N i : Nat} (hl : ps.length = i) (hi : i < N) (s : ByteArray × Value) : (ps ++ zdf (N - i)).set i s = (ps ++ [s]) ++ zdf (N - (i + 1)) := by
  obtain ⟨m, hm⟩ : ∃ m, N - i = m + 1 := ⟨N - i - 1, by omega⟩
  rw [hm, show N - (i + 1) = m by omega]
  unfold zdf
  rw [List.replicate_succ, List.set_append_right _ _ (by omega), hl, Nat.sub_self, List.set_cons_zero, List.append_assoc]
  rfl
set_option maxRecDepth 100000 in
set_option maxHeartbeats 8000000 in
theorem toD_any (v : Value) (ds : List Df) (hs : SmD ds) (W : World) (ha : RdD W v ds) : Calls Try.prog 7 #[v] W (NewD W ds) := by
  obtain ⟨i0, hi, hz0, hz1, hz2⟩ := info_parts infoD
  obtain ⟨A, ca, rfl⟩ := ha.form
  have HA := Lib.hid (fun w (h : Below W.heap.size W w) => ha.below h)
  have HSM := Lib.hid hs.2
  have hN := hs.1
  clear ha hs
  go_enter Try.func7, Try.ntmps7
  go_wp2_with (refine wpList_make_full _ rfl _ _ _ rfl W.heap.size 52 i0 (.agg #[.string ⟨#[]⟩, .slice none 0 0]) 2 Try.underlying28 hi hz0 hz1 .i64 .i64 _ _ ds.length rfl rfl rfl rfl (by rw [hz2]; omega) (by unfold maxLen; omega) (Nat.le_refl _) ?_; intro w1 hown hgr)
  have hb1 : Below W.heap.size W w1 := (Below.refl _ _).grown hgr (Nat.le_refl _) (fun k hk => by cases hk)
  have hown1 : w1.ownsRow W.heap.size 52 2 (.slice (some ⟨W.heap.size, 0, none⟩) ds.length ds.length) ds.length (dfv (([] : List (ByteArray × Value)) ++ zdf (ds.length - 0))) := by
    have e : (madeCells (Value.agg #[Value.string ⟨#[]⟩, Value.slice none 0 0]).cells (ds.length * 2)).toList = dfv (([] : List (ByteArray × Value)) ++ zdf (ds.length - 0)) := made_dfv _
    rw [e] at hown
    exact hown
  have HB1 := Lib.hid hb1
  have HOWN1 := Lib.hid hown1
  clear hown hgr hb1 hown1
  go_loopw [4] (fun vi wr => ∃ (i : Nat) (ps : List (ByteArray × Value)), vi = .int .i64 i ∧ i ≤ ds.length ∧ ps.length = i ∧ Hid (wr.ownsRow W.heap.size 52 2 (.slice (some ⟨W.heap.size, 0, none⟩) ds.length ds.length) ds.length (dfv (ps ++ zdf (ds.length - i)))) ∧ Hid (∀ j (h : j < ps.length) (h2 : j < ds.length), ps[j].1 = ds[j].1 ∧ wr.ownsRow (W.heap.size + 1) 75 2 ps[j].2 ds[j].2.length (slv ds[j].2)) ∧ Hid (Below W.heap.size W wr)) (fun vi _ => ds.length - (intOf vi).toNat)
  case atStart => exact ⟨0, [], rfl, by omega, rfl, HOWN1, Lib.hid (fun j h => by simp at h), HB1⟩
  case round =>
    clear HOWN1 HB1
    obtain ⟨i, ps, rfl, hi2, hpl, HO, HP, HB⟩ := hrel
    by_cases hp : i < ds.length
    · obtain ⟨ga, B, m, c, rfl, -, c0, c1, r0, em⟩ := (HA.out wr HB.out).item hp
      obtain ⟨x, hx'⟩ : ∃ x, ds[i] = x := ⟨_, rfl⟩
      obtain ⟨nm, xs⟩ := x
      have HX := Lib.hid hx'
      have hxl := (HSM.out ds[i] (List.getElem_mem hp)).2.1
      rw [hx'] at c0 r0 em hxl
      simp only at c0 r0 em hxl
      have HC := Lib.hid (to_def nm B m c xs hxl wr r0)
      have HPL := Lib.hid hpl
      have i1 : (0 : Int) ≤ (i : Int) := by omega
      have i2 : (i : Int) < (ds.length : Int) := by omega
      clear hx' r0 em hxl hpl
      go_wp2_with fail
      refine HC.out.mono ?_
      rintro e w2 ⟨vb, rfl, hob, hb2⟩
      obtain ⟨D, dc, rfl⟩ := own_formS hob
      have hsz : W.heap.size + 1 ≤ wr.heap.size := (World.ownsRow.lt HO.out W.heap.size (by simp [Value.ownBlock])).2
      have HB2 := Lib.hid (HB.out.trans (hb2.mono HB.out.size))
      have HO2 := Lib.hid (HO.out.kept (only_of_below hb2 none) (by simp [Value.ownBlock]))
      have HOB := Lib.hid (hob.mono hsz)
      have HP2 : Hid (∀ j (h : j < ps.length) (h2 : j < ds.length), ps[j].1 = ds[j].1 ∧ w2.ownsRow (W.heap.size + 1) 75 2 ps[j].2 ds[j].2.length (slv ds[j].2)) := Lib.hid (fun j h h2 => ⟨(HP.out j h h2).1, (HP.out j h h2).2.kept (only_of_below hb2 none) (by cases ps[j].2.ownBlock <;> simp)⟩)
      obtain ⟨u0, d0⟩ : ∃ u, w2.cell? ⟨W.heap.size, i * 2, none⟩ = some u := ⟨_, (HO2.out.cellAt (i * 2) (by omega)).trans (dfv_get0 (by simp [HPL.out]; omega))⟩
      obtain ⟨u1, d1⟩ : ∃ u, w2.cell? ⟨W.heap.size, i * 2 + 1, none⟩ = some u := ⟨_, (HO2.out.cellAt (i * 2 + 1) (by omega)).trans (dfv_get1 (by simp [HPL.out]; omega))⟩
      have f0 := HO2.out.frozenAt (i * 2)
      have f1 := HO2.out.frozenAt (i * 2 + 1)
      have s1 := HO2.out.stored (i * 2) (.string nm)
      have s2 := s1.1.stored (i * 2 + 1) (.slice D xs.length dc)
      have hs := s2.1
      have hcs := dfv_set (xs := ps ++ zdf (ds.length - i)) (i := i) (by simp [HPL.out]; omega) (nm, .slice D xs.length dc)
      rw [zdf_set HPL.out hp] at hcs
      simp only at hcs
      rw [hcs] at hs
      have HS := Lib.hid hs
      have HG2 := Lib.hid (only_trans s1.2 s2.2)
      clear s1 s2 hs HO HB hb2 hcs HO2 c0 c1 hob HP
      go_wp2_with fail
      go_roundw
      case rel => exact ⟨i + 1, ps ++ [(nm, .slice D xs.length dc)], by go_num, by omega, by rw [List.length_append, HPL.out]; rfl, HS, Lib.hid (fun j h h2 => by
        by_cases hj : j < ps.length
        · rw [List.getElem_append_left hj]
          refine ⟨(HP2.out j hj h2).1, (HP2.out j hj h2).2.kept HG2.out ?_⟩
          rcases hob2 : ps[j].2.ownBlock with _ | k
          · exact .inl rfl
          · refine .inr (fun e => ?_)
            have := (World.ownsRow.lt (HP2.out j hj h2).2 k hob2).1
            injection e with e
            omega
        · obtain rfl : j = i := by simp at h; have := HPL.out; omega
          have e1 : (ps ++ [(nm, Value.slice D xs.length dc)])[j]'h = (nm, Value.slice D xs.length dc) := by
            rw [List.getElem_append_right (by have := HPL.out; omega)]
            simp [HPL.out]
          rw [e1, HX.out]
          refine ⟨rfl, HOB.out.kept HG2.out ?_⟩
          rcases hob2 : (Value.slice D xs.length dc).ownBlock with _ | k
          · exact .inl rfl
          · refine .inr (fun e => ?_)
            have := (World.ownsRow.lt HOB.out k hob2).1
            injection e with e
            omega), Lib.hid (HB2.out.grown HG2.out HB2.out.size (fun k hk => by injection hk with hk; omega))⟩
      case measure => simp [intOf]; omega
    · obtain rfl : i = ds.length := by omega
      have HPL := Lib.hid hpl
      have HRES : Hid (RdD wr (.slice (some ⟨W.heap.size, 0, none⟩) ds.length ds.length) ds) := Lib.hid (by
        refine ⟨_, _, rfl, fun j hj => ⟨⟨W.heap.size, 0, none⟩, ps[j]'(by have := HPL.out; omega) |>.2, rfl, ?_, ?_, ?_, ?_⟩⟩
        · exact (World.ownsRow.lt HO.out W.heap.size (by simp [Value.ownBlock])).2
        · have h1 := HO.out.cellAt (j * 2) (by omega)
          rw [dfv_get0 (by simp [HPL.out]; omega)] at h1
          rw [addr_lit, Nat.zero_add, h1, List.getElem_append_left (by have := HPL.out; omega), (HP.out j _ hj).1]
        · have h1 := HO.out.cellAt (j * 2 + 1) (by omega)
          rw [dfv_get1 (by simp [HPL.out]; omega)] at h1
          rw [addr_lit, Nat.zero_add, addr_lit, h1, List.getElem_append_left (by have := HPL.out; omega)]
        · exact RdS.of_own (HP.out j (by have := HPL.out; omega) hj).2 (by have := (HSM.out ds[j] (List.getElem_mem hj)).2.1; omega))
      clear HO HP hpl
      go_wp2_with fail
      go_ret
      exact ⟨_, rfl, HRES.out, HB.out⟩
end Go.Proofs.Ytofikgjoiidhmaa

namespace Go.Proofs.Ytofikgjoiidhmaa
open Go.RowKit Go

/-- An op as it may be: a kind and a number. -/
def okOp (o : Int × Int) : Bool := if o.1 = 0 then true else if o.1 = 1 then decide (0 ≤ o.2 ∧ o.2 ≤ 23) else if o.1 = 2 then decide (0 ≤ o.2 ∧ o.2 ≤ 23) else decide ((3 ≤ o.1 ∧ o.1 ≤ 8) ∧ o.2 = 0)
/-- The kinds that ops leave open behind those that are open ahead of them. -/
def openG : List (Int × Int) → List Int → Option (List Int)
  | [], st => some st
  | o :: r, st =>
    if o.1 = 3 ∨ o.1 = 4 ∨ o.1 = 6 then openG r (st ++ [o.1])
    else if o.1 = 5 ∨ o.1 = 7 then
      match st.getLast? with
      | none => none
      | some k => if (k = 6 ↔ o.1 = 7) then openG r st.dropLast else none
    else openG r st
/-- The op that ends one of a kind. -/
def endOf (k : Int) : Int × Int := if k = 6 then (7, 0) else (5, 0)
/-- The same with ops that may be none: what ends nothing must begin something. -/
def waitG : List (Int × Int) → List Int → Option (List Int)
  | [], st => some st
  | o :: r, st =>
    if okOp o = true ∧ o.1 ≠ 5 ∧ o.1 ≠ 7 then (if o.1 = 3 ∨ o.1 = 4 ∨ o.1 = 6 then waitG r (st ++ [o.1]) else waitG r st)
    else match st.getLast? with
      | none => none
      | some k => if endOf k = o then waitG r st.dropLast else none
theorem okOp_end (k : Int) : okOp (endOf k) = true := by
  unfold endOf
  split <;> decide
theorem waitG_eq : ∀ (xs : List (Int × Int)) (st : List Int), waitG xs st = if xs.all okOp = true then openG xs st else none := by
  intro xs
  induction xs with
  | nil => intro st; rfl
  | cons o r ih =>
    intro st
    obtain ⟨k, n⟩ := o
    unfold waitG openG
    simp only [List.all_cons, Bool.and_eq_true]
    cases hk : okOp (k, n) with
    | false =>
      simp only [Bool.false_eq_true, false_and, if_false]
      split
      · rfl
      · rename_i q hq
        rw [if_neg]
        intro e
        have := okOp_end q
        rw [e, hk] at this
        cases this
    | true =>
      simp only [true_and]
      by_cases h5 : k = 5 ∨ k = 7
      · have hn : n = 0 := by
          unfold okOp at hk
          rcases h5 with rfl | rfl <;> simpa using hk
        have a1 : ¬ (k ≠ 5 ∧ k ≠ 7) := by omega
        have a2 : ¬ (k = 3 ∨ k = 4 ∨ k = 6) := by omega
        rw [if_neg a1, if_neg a2, if_pos h5]
        cases hl : st.getLast? with
        | none => simp
        | some q =>
          simp only
          have he : (endOf q = (k, n)) ↔ (q = 6 ↔ k = 7) := by
            unfold endOf
            subst hn
            by_cases hq : q = 6
            · simp [hq]; omega
            · simp [hq]; omega
          by_cases h6 : (q = 6 ↔ k = 7)
          · rw [if_pos (he.2 h6), if_pos h6, ih]
          · rw [if_neg (fun e => h6 (he.1 e)), if_neg h6]
            simp
      · have a1 : k ≠ 5 ∧ k ≠ 7 := by omega
        rw [if_pos a1, if_neg h5]
        by_cases h3 : k = 3 ∨ k = 4 ∨ k = 6
        · rw [if_pos h3, if_pos h3, ih]
        · rw [if_neg h3, if_neg h3, ih]
/-- A body with its shape. -/
def shapeB (xs : List (Int × Int)) : Bool := decide (xs.length ≤ 60) && (xs.all okOp && decide (openG xs [] = some []))
theorem shape_wait (xs : List (Int × Int)) : shapeB xs = (decide (xs.length ≤ 60) && decide (waitG xs [] = some [])) := by
  unfold shapeB
  rw [waitG_eq]
  cases h : xs.all okOp <;> simp
end Go.Proofs.Ytofikgjoiidhmaa

namespace Go.Proofs.Ytofikgjoiidhmaa
open Go.RowKit Go

/-- A tree: its kind, its number, what stands in it. -/
inductive Tr | mk (k n : Int) (kids : List Tr)
def Tr.k : Tr → Int | .mk k _ _ => k
def Tr.n : Tr → Int | .mk _ n _ => n
def Tr.kids : Tr → List Tr | .mk _ _ c => c
mutual
def Tr.size : Tr → Nat | .mk _ _ c => sizeL c + 1
def sizeL : List Tr → Nat | [] => 0 | t :: r => t.size + sizeL r
end
theorem Tr.size_kids (t : Tr) : t.size = sizeL t.kids + 1 := by cases t; simp only [Tr.size, Tr.kids]
theorem sizeL_app (a b : List Tr) : sizeL (a ++ b) = sizeL a + sizeL b := by
  induction a with
  | nil => simp [sizeL]
  | cons t r ih => simp only [List.cons_append, sizeL, ih]; omega
theorem sizeL_one (t : Tr) : sizeL [t] = sizeL t.kids + 1 := by simp only [sizeL, Tr.size_kids, Nat.add_zero]
theorem sizeL_get {xs : List Tr} {i : Nat} (h : i < xs.length) : sizeL xs[i].kids + 1 + sizeL (xs.take i) ≤ sizeL xs := by
  have e : xs = xs.take i ++ xs[i] :: xs.drop (i + 1) := by rw [← List.drop_eq_getElem_cons h, List.take_append_drop]
  have e2 := congrArg sizeL e
  rw [sizeL_app, sizeL] at e2
  have := Tr.size_kids xs[i]
  omega
theorem sizeL_len (xs : List Tr) : xs.length ≤ sizeL xs := by
  induction xs with
  | nil => simp [sizeL]
  | cons t r ih => simp only [sizeL, List.length_cons]; have := t.size_kids; omega
theorem sizeL_take_succ {xs : List Tr} {i : Nat} (h : i < xs.length) : sizeL (xs.take (i + 1)) = sizeL (xs.take i) + (sizeL xs[i].kids + 1) := by rw [← List.take_append_getElem h, sizeL_app, sizeL_one]
mutual
/-- Trees with the marks k, k + 1, .. in the places of their kinds and numbers, one behind the other. -/
def markT : Tr → Nat → Tr | .mk _ _ c, k => .mk (k : Int) ((k + 1 : Nat) : Int) (markL c (k + 2))
def markL : List Tr → Nat → List Tr | [], _ => [] | t :: r, k => markT t k :: markL r (k + 2 * t.size)
end
theorem markL_len (xs : List Tr) (k : Nat) : (markL xs k).length = xs.length := by
  induction xs generalizing k with
  | nil => rfl
  | cons t r ih => simp only [markL, List.length_cons, ih]
theorem markT_eq (t : Tr) (k : Nat) : markT t k = .mk (k : Int) ((k + 1 : Nat) : Int) (markL t.kids (k + 2)) := by cases t; simp only [markT, Tr.kids]
theorem markL_app (a b : List Tr) (k : Nat) : markL (a ++ b) k = markL a k ++ markL b (k + 2 * sizeL a) := by
  induction a generalizing k with
  | nil => simp only [List.nil_append, markL, sizeL, Nat.mul_zero, Nat.add_zero]
  | cons t r ih =>
    simp only [List.cons_append, markL, sizeL, ih]
    rw [show k + 2 * t.size + 2 * sizeL r = k + 2 * (t.size + sizeL r) by omega]
mutual
theorem size_mark : ∀ (t : Tr) (k : Nat), (markT t k).size = t.size
  | .mk _ _ c, k => by simp only [markT, Tr.size, sizeL_mark c]
theorem sizeL_mark : ∀ (xs : List Tr) (k : Nat), sizeL (markL xs k) = sizeL xs
  | [], _ => by simp only [markL]
  | t :: r, k => by simp only [markL, sizeL, size_mark t, sizeL_mark r]
end
/-- Marked as far as i. -/
def halfL (k i : Nat) (xs : List Tr) : List Tr := markL (xs.take i) k ++ xs.drop i
theorem halfL_len (k i : Nat) (xs : List Tr) (h : i ≤ xs.length) : (halfL k i xs).length = xs.length := by simp [halfL, markL_len]; omega
theorem halfL_get? (k i j : Nat) (xs : List Tr) (hi : i ≤ xs.length) : (halfL k i xs)[j]? = if j < i then (markL xs k)[j]? else xs[j]? := by
  unfold halfL
  have hl : (markL (xs.take i) k).length = i := by rw [markL_len, List.length_take]; omega
  by_cases h : j < i
  · rw [if_pos h, List.getElem?_append_left (by omega)]
    have e : markL xs k = markL (xs.take i) k ++ markL (xs.drop i) (k + 2 * sizeL (xs.take i)) := by rw [← markL_app, List.take_append_drop]
    rw [e, List.getElem?_append_left (by omega)]
  · rw [if_neg h, List.getElem?_append_right (by omega), hl, List.getElem?_drop]
    congr 1
    omega
theorem halfL_get_lt {k i j : Nat} {xs : List Tr} (h : j < i) (hi : i ≤ xs.length) (hj : j < (halfL k i xs).length) : (halfL k i xs)[j] = (markL xs k)[j]'(by rw [markL_len]; omega) := by
  have e := halfL_get? k i j xs hi
  rw [if_pos h, List.getElem?_eq_getElem hj, List.getElem?_eq_getElem (by rw [markL_len]; omega)] at e
  exact Option.some.inj e
theorem halfL_get_ge {k i j : Nat} {xs : List Tr} (h : i ≤ j) (hi : i ≤ xs.length) (hj : j < (halfL k i xs).length) (hx : j < xs.length) : (halfL k i xs)[j] = xs[j] := by
  have e := halfL_get? k i j xs hi
  rw [if_neg (by omega), List.getElem?_eq_getElem hj, List.getElem?_eq_getElem hx] at e
  exact Option.some.inj e
theorem markL_get {k i : Nat} {xs : List Tr} (h : i < xs.length) : (markL xs k)[i]'(by rw [markL_len]; exact h) = markT xs[i] (k + 2 * sizeL (xs.take i)) := by
  have e : markL xs k = markL (xs.take i) k ++ markL (xs.drop i) (k + 2 * sizeL (xs.take i)) := by rw [← markL_app, List.take_append_drop]
  simp only [e]
  rw [List.getElem_append_right (by rw [markL_len, List.length_take]; omega)]
  simp only [List.drop_eq_getElem_cons h, markL, markL_len, List.length_take]
  have : i - min i xs.length = 0 := by omega
  simp [this]
theorem halfL_succ {k i : Nat} {xs : List Tr} (h : i < xs.length) : halfL k (i + 1) xs = (halfL k i xs).set i (markT xs[i] (k + 2 * sizeL (xs.take i))) := by
  unfold halfL
  rw [List.set_append_right _ _ (by rw [markL_len, List.length_take]; omega), markL_len, List.length_take, show i - min i xs.length = 0 by omega, List.drop_eq_getElem_cons h, List.set_cons_zero, ← List.take_append_getElem h, markL_app]
  simp only [markL, List.append_assoc, List.cons_append, List.nil_append]
theorem halfL_zero (k : Nat) (xs : List Tr) : halfL k 0 xs = xs := by simp [halfL, markL]
theorem halfL_all (k : Nat) (xs : List Tr) : halfL k xs.length xs = markL xs k := by simp [halfL]
/-- The trees that ops begin with, and the ops behind these: none, or one that ends something. -/
inductive Grows : List (Int × Int) → List Tr → List (Int × Int) → Prop
  | stop (xs : List (Int × Int)) (h : ∀ o r, xs = o :: r → o.1 = 5 ∨ o.1 = 7) : Grows xs [] xs
  | leaf (o : Int × Int) (r ys : List (Int × Int)) (ts : List Tr) (h : o.1 ≠ 3 ∧ o.1 ≠ 4 ∧ o.1 ≠ 5 ∧ o.1 ≠ 6 ∧ o.1 ≠ 7) (g : Grows r ts ys) : Grows (o :: r) (.mk o.1 o.2 [] :: ts) ys
  | nest (o : Int × Int) (r r2 ys : List (Int × Int)) (kids ts : List Tr) (h : o.1 = 3 ∨ o.1 = 4 ∨ o.1 = 6) (gk : Grows r kids (endOf o.1 :: r2)) (g : Grows r2 ts ys) : Grows (o :: r) (.mk o.1 o.2 kids :: ts) ys
theorem Grows.size {xs ys : List (Int × Int)} {ts : List Tr} (h : Grows xs ts ys) : sizeL ts + ys.length ≤ xs.length := by
  induction h with
  | stop xs h => simp [sizeL]
  | leaf o r ys ts h g ih => simp only [sizeL, Tr.size, List.length_cons] at ih ⊢; omega
  | nest o r r2 ys kids ts h gk g ih1 ih2 => simp only [sizeL, Tr.size, List.length_cons] at ih1 ih2 ⊢; omega
theorem Grows.suffix {xs ys : List (Int × Int)} {ts : List Tr} (h : Grows xs ts ys) : ys = xs.drop (xs.length - ys.length) := by
  induction h with
  | stop xs h => simp
  | leaf o r ys ts h g ih =>
    have := g.size
    rw [List.length_cons, show r.length + 1 - ys.length = (r.length - ys.length) + 1 by omega, List.drop_succ_cons]
    exact ih
  | nest o r r2 ys kids ts h gk g ih1 ih2 =>
    have h1 := gk.size
    have h2 := g.size
    simp only [List.length_cons] at h1
    have e1 : r2 = r.drop (r.length - r2.length) := by
      have := congrArg (List.drop 1) ih1
      simp only [List.drop_succ_cons, List.drop_zero, List.drop_drop, List.length_cons] at this
      rw [show r.length - (r2.length + 1) + 1 = r.length - r2.length by omega] at this
      exact this
    rw [List.length_cons, show r.length + 1 - ys.length = (r.length - ys.length) + 1 by omega, List.drop_succ_cons]
    rw [show r.length - ys.length = (r.length - r2.length) + (r2.length - ys.length) by omega, ← List.drop_drop, ← e1]
    exact ih2
theorem grows_of : ∀ (m : Nat) (xs : List (Int × Int)) (st : List Int), xs.length ≤ m → xs.all okOp = true → openG xs st = some [] →
    ∃ ts ys, Grows xs ts ys ∧ ((ys = [] ∧ st = []) ∨ ∃ r q st0, ys = endOf q :: r ∧ st = st0 ++ [q] ∧ openG r st0 = some [] ∧ r.all okOp = true) := by
  intro m
  induction m with
  | zero =>
    intro xs st hl ha ho
    obtain rfl : xs = [] := List.eq_nil_of_length_eq_zero (by omega)
    simp [openG] at ho
    exact ⟨[], [], .stop _ (fun o r e => by cases e), .inl ⟨rfl, ho⟩⟩
  | succ m ih =>
    intro xs st hl ha ho
    cases xs with
    | nil =>
      simp [openG] at ho
      exact ⟨[], [], .stop _ (fun o r e => by cases e), .inl ⟨rfl, ho⟩⟩
    | cons o r =>
      simp only [List.all_cons, Bool.and_eq_true] at ha
      simp only [List.length_cons] at hl
      by_cases h5 : o.1 = 5 ∨ o.1 = 7
      · refine ⟨[], o :: r, .stop _ (fun o2 r2 e => by injection e with e1 e2; rw [← e1]; exact h5), .inr ?_⟩
        rcases List.eq_nil_or_concat st with rfl | ⟨l, q, rfl⟩
        · unfold openG at ho
          rw [if_neg (by omega), if_pos h5] at ho
          simp at ho
        · simp only [List.concat_eq_append] at ho ⊢
          unfold openG at ho
          rw [if_neg (by omega), if_pos h5] at ho
          simp only [List.getLast?_append, List.getLast?_singleton, Option.some_or, List.dropLast_concat] at ho
          split at ho
          · rename_i hq
            refine ⟨r, q, l, ?_, rfl, ho, ha.2⟩
            obtain ⟨k, n⟩ := o
            have hn : n = 0 := by
              have hk := ha.1
              unfold okOp at hk
              simp only at h5
              rcases h5 with rfl | rfl <;> simpa using hk
            subst hn
            simp only at h5 hq
            unfold endOf
            by_cases h6 : q = 6
            · rw [if_pos h6, hq.1 h6]
            · rw [if_neg h6, show k = 5 by
                rcases h5 with h | h
                · exact h
                · exact absurd (hq.2 h) h6]
          · cases ho
      · by_cases h3 : o.1 = 3 ∨ o.1 = 4 ∨ o.1 = 6
        · unfold openG at ho
          rw [if_pos h3] at ho
          obtain ⟨kids, ys1, g1, h1⟩ := ih r _ (by omega) ha.2 ho
          rcases h1 with ⟨-, hx⟩ | ⟨r1, q, st0, rfl, hst, ho1, ha1⟩
          · simp at hx
          · obtain ⟨e1, e2⟩ := List.append_inj' hst rfl
            subst e1
            injection e2 with e2 _
            subst e2
            have := g1.size
            simp only [List.length_cons] at this
            obtain ⟨ts, ys, g2, h2⟩ := ih r1 _ (by omega) ha1 ho1
            exact ⟨_, ys, .nest o r r1 ys kids ts h3 g1 g2, h2⟩
        · unfold openG at ho
          rw [if_neg h3, if_neg h5] at ho
          obtain ⟨ts, ys, g2, h2⟩ := ih r _ (by omega) ha.2 ho
          exact ⟨_, ys, .leaf o r ys ts (by omega) g2, h2⟩
/-- The trees of a body with its shape. -/
theorem shape_grows {xs : List (Int × Int)} (h : shapeB xs = true) : ∃ ts, Grows xs ts [] := by
  unfold shapeB at h
  simp only [Bool.and_eq_true, decide_eq_true_eq] at h
  obtain ⟨ts, ys, g, h1⟩ := grows_of xs.length xs [] (Nat.le_refl _) h.2.1 h.2.2
  rcases h1 with ⟨rfl, -⟩ | ⟨r, q, st0, -, hx, -⟩
  · exact ⟨ts, g⟩
  · simp at hx
mutual
/-- The ops of a tree, in order. -/
def flatT : Tr → List (Int × Int) | .mk k n c => (k, n) :: (if k = 3 ∨ k = 4 ∨ k = 6 then flatL c ++ [endOf k] else [])
def flatL : List Tr → List (Int × Int) | [] => [] | t :: r => flatT t ++ flatL r
end
theorem Grows.flat {xs ys : List (Int × Int)} {ts : List Tr} (h : Grows xs ts ys) : xs = flatL ts ++ ys := by
  induction h with
  | stop xs h => simp [flatL]
  | leaf o r ys ts h g ih =>
    rw [flatL, flatT, if_neg (by omega)]
    simp only [List.cons_append, List.nil_append]
    rw [← ih]
  | nest o r r2 ys kids ts h gk g ih1 ih2 =>
    rw [flatL, flatT, if_pos h]
    simp only [List.cons_append, List.append_assoc, List.nil_append]
    rw [← ih2, ← ih1]
end Go.Proofs.Ytofikgjoiidhmaa
