/-
  From a walk that ends in 'true' and 'nothing that was there has changed' to what a law's row says behind the call, at every program and every shape of the arguments.
  What every row of this seat asks of the program as a whole.
  What the walks of this seat import.
  A block that is known whole: what it holds, and how it is kept.
  Lists of numbers of 32 bits: whether two are alike, a copy of one, the marks that are laid into one, whether they lie there.
  A copy of a list of numbers of 32 bits.
  What lists of any kind of number have in common.
  Lists of signed numbers (int32): a copy of one, whether two are alike, the marks that are laid into one, whether they lie there.
  Stores as values; the laws' own helpers on stores.
  What the exact laws ask of lists and stores, in the shape in which they ask it.
  Lists of slots (a kind and a number each): a copy of one, whether two are alike, the marks that are laid into one, whether they lie there.
  Lists of slots: whether two are alike, a copy of one, the marks that are laid into one, whether they lie there.
  A list of ops that comes in, opened.
  Lists of definitions (a name and a list of ops each).
  A list of definitions that comes in, opened.
-/
import Derived.ProofKit
import Derived.WalkKit
import Derived.LaidMore
import Derived.OpenShut
import Derived.Stop.Joined
import Derived.Sort.Grow
import Derived.Lib.Hide
import Derived.Deep.Draws
import Derived.OpenVars
import Derived.ChangeVars
import Derived.Test.YtofikgjoiidhmaaRows
import Derived.MakeChecks
import Derived.Test.YtofikgjoiidhmaaProg
import Derived.WalkSpells
import Derived.WalkSmall
import Derived.LoopTactic
import Derived.BigQuiet
import Derived.Deep.QuietTactic
import Derived.WalkMore
import Derived.ScopeJumps
import Derived.Below
import Derived.Laws.Rows
import Derived.Deep.DrawnRows
import Derived.DataElems
import Derived.OwnWalk
import Derived.Deep.Onto
import Derived.Handy
import Derived.Lib.SmallJoins
import Derived.Deep.RegionHeld3
import Derived.Deep.Slices
import Derived.ChangeArms
namespace Go.Proofs.Ytofikgjoiidhmaa
open Go.ChangeShapes Go.WideShapes Go.ChangeAt Go.RowKit

theorem below_drewN {B : Nat} {a w : World} (h : Below B a w) (n : Nat) : Below B a (w.drewN n) := ⟨h.os, h.tape, h.output, h.size, h.block⟩
theorem below_grow {B : Nat} {a w : World} (h : Below B a w) (os : Array Obj) (hB : B ≤ w.heap.size) : Below B a (Go.Sort.grow w os) :=
  h.trans ⟨rfl, rfl, rfl, by simp [Go.Sort.grow], fun k hk => by show (w.heap ++ os)[k]? = _; rw [Array.getElem?_append_left (by omega)]⟩
theorem below_regrow (w : World) (k : Nat) (os : Array Obj) : Below w.heap.size w (Go.Sort.grow (w.drewN k) os) := below_grow (below_drewN (Below.refl _ _) k) os (by simp)
theorem bcell {W w1 : World} (hb : Below W.heap.size W w1) : (∀ b o, b < W.heap.size → w1.cell? ⟨b, o, none⟩ = W.cell? ⟨b, o, none⟩) ∧ (∀ b o, b < W.heap.size → w1.frozen? ⟨b, o, none⟩ = W.frozen? ⟨b, o, none⟩) :=
  ⟨fun b o h => hb.cell (p := ⟨b, o, none⟩) h, fun b o h => hb.frozen (p := ⟨b, o, none⟩) h⟩
theorem var?_below {P : Program} {W W' : World} {n : String} {cs : Array Value} (h : W.var? P n = some cs) (hb : Below W.heap.size W W') : W'.var? P n = some cs := by
  unfold World.var? at h ⊢
  cases hg : P.globalNamed n with
  | none => rw [hg] at h; simp at h
  | some g =>
    rw [hg] at h
    simp only [Option.bind_some] at h ⊢
    cases hw : W.heap[g]? with
    | none => rw [hw] at h; simp at h
    | some o => rw [hw] at h; rw [hb.block g (Array.getElem?_eq_some_iff.1 hw).1, hw]; exact h

theorem trodAll_below {H : Type} {enc : TypeId × Value → H} {P : Program} (hl : laidOutB P = true) {W W' : World} (hb : Below W.heap.size W W') :
    ∀ {ts : List TypeId} {vs : List Value} {ds : List (DataW H)} {ps : List MemPlace}, (ts.all fun t => P.readableRec t && decide (t < P.types.size)) = true → DataW.TrodAll enc P W 0 (fun _ => true) true ts vs ds ps → (∀ x ∈ ps, x.block < W.heap.size) →
      DataW.TrodAll enc P W' 0 (fun b => decide (b < W.heap.size)) true ts vs ds ps
  | [], [], [], _, _, h, _ => h
  | t :: ts, v :: vs, d :: ds, _, hr, ⟨p, q, h1, h2, e⟩, hlt => by
    simp only [List.all_cons, Bool.and_eq_true, decide_eq_true_eq] at hr
    subst e
    exact ⟨p, q, Below.trod hl hr.1.1 hr.1.2 h1 hb (fun x hx => hlt x (List.mem_append_left _ hx)), trodAll_below hl hb hr.2 h2 (fun x hx => hlt x (List.mem_append_right _ hx)), rfl⟩
  | [], _ :: _, _, _, _, h, _ => h.elim
  | [], [], _ :: _, _, _, h, _ => h.elim
  | _ :: _, [], _, _, _, h, _ => h.elim
  | _ :: _, _ :: _, [], _, _, h, _ => h.elim

/-- WHAT A LAW'S ROW ASKS BEHIND THE CALL, where it names package-level variables. -/
theorem law_postV {H : Type} {enc : TypeId × Value → H} {P : Program} {f : Func} {s : ChangeSpec} {W W' : World} {args : Array Value} {ds gs : List (DataW H)} {before : List MemPlace} {tb : TypeId}
    (hl : laidOutB P = true) (hread : (f.params.toList.all fun t => P.readableRec t && decide (t < P.types.size)) = true) (hvr : varsRowed P s.vars = true)
    (hW : DataW.Whole enc P f.params.toList s.vars false W args.toList ds gs before) (hb : Below W.heap.size W W')
    (hres : f.resultTypes = #[tb]) (htb : P.underlying tb = some .bool)
    (hfn : (s.fn H (ds ++ gs)).results = [.lit (.bool true)] ∧ (s.fn H (ds ++ gs)).args = ds ∧ (s.fn H (ds ++ gs)).vars = gs) :
    s.post enc P f false true false false W args (.bool true) W' := by
  obtain ⟨h1, h2, h3⟩ := hfn
  have hlt : ∀ p ∈ before, p.block < W.heap.size := fun p hp => hW.lt p hp
  have hW2 := hW
  obtain ⟨p, q, hA, hV, rfl, _, _⟩ := hW2
  refine ⟨ds, gs, p ++ q, [], p, q, hW, ?_, ?_, ?_, hb.frame _, fun h => by cases h⟩
  · rw [h1, hres]
    exact trodAll_mk1 (shut_bool htb _)
  · rw [h2]
    exact trodAll_below hl hb hread hA (fun x hx => hlt x (List.mem_append_left _ hx))
  · rw [h3]
    exact Below.trodVars hl hb hvr hV
theorem gs_one {H : Type} {enc : TypeId × Value → H} {P : Program} {w : World} {spare : Nat → Bool} {n : String} {gs : List (DataW H)} {ps : List MemPlace} (h : DataW.TrodVars enc P w spare [n] gs ps) : ∃ g, gs = [g] := by
  cases gs with
  | nil => exact h.elim
  | cons d ds =>
    obtain ⟨_, _, _, _, _, q, _, _, _, _, hs, _⟩ := h
    obtain ⟨rfl, -⟩ := trodVars_none hs
    exact ⟨d, rfl⟩
theorem gs_two {H : Type} {enc : TypeId × Value → H} {P : Program} {w : World} {spare : Nat → Bool} {n m : String} {gs : List (DataW H)} {ps : List MemPlace} (h : DataW.TrodVars enc P w spare [n, m] gs ps) : ∃ g k, gs = [g, k] := by
  cases gs with
  | nil => exact h.elim
  | cons d ds =>
    obtain ⟨_, _, _, _, _, q, _, _, _, _, hs, _⟩ := h
    obtain ⟨k, rfl⟩ := gs_one hs
    exact ⟨d, k, rfl⟩
theorem gs_three {H : Type} {enc : TypeId × Value → H} {P : Program} {w : World} {spare : Nat → Bool} {n m o : String} {gs : List (DataW H)} {ps : List MemPlace} (h : DataW.TrodVars enc P w spare [n, m, o] gs ps) : ∃ g k l, gs = [g, k, l] := by
  cases gs with
  | nil => exact h.elim
  | cons d ds =>
    obtain ⟨_, _, _, _, _, q, _, _, _, _, hs, _⟩ := h
    obtain ⟨k, l, rfl⟩ := gs_two hs
    exact ⟨d, k, l, rfl⟩

/-- WHAT A LAW'S ROW ASKS BEHIND THE CALL. -/
theorem law_post {H : Type} {enc : TypeId × Value → H} {P : Program} {f : Func} {s : ChangeSpec} {W W' : World} {args : Array Value} {ds gs : List (DataW H)} {before : List MemPlace} {tb : TypeId}
    (hl : laidOutB P = true) (hread : (f.params.toList.all fun t => P.readableRec t && decide (t < P.types.size)) = true)
    (hW : DataW.Whole enc P f.params.toList s.vars false W args.toList ds gs before) (hv : s.vars = []) (hb : Below W.heap.size W W')
    (hres : f.resultTypes = #[tb]) (htb : P.underlying tb = some .bool)
    (hfn : (s.fn H (ds ++ gs)).results = [.lit (.bool true)] ∧ (s.fn H (ds ++ gs)).args = ds ∧ (s.fn H (ds ++ gs)).vars = []) :
    s.post enc P f false true false false W args (.bool true) W' := by
  obtain ⟨h1, h2, h3⟩ := hfn
  have hlt : ∀ p ∈ before, p.block < W.heap.size := fun p hp => hW.lt p hp
  have hW2 := hW
  obtain ⟨p, q, hA, hV, rfl, _, _⟩ := hW2
  rw [hv] at hV
  obtain ⟨rfl, rfl⟩ := trodVars_none hV
  refine ⟨ds, [], p ++ [], [], p, [], hW, ?_, ?_, ?_, hb.frame _, fun h => by cases h⟩
  · rw [h1, hres]
    exact trodAll_mk1 (shut_bool htb _)
  · rw [h2]
    exact trodAll_below hl hb hread hA (fun x hx => hlt x (by simpa using hx))
  · rw [hv, h3]
    rfl
end Go.Proofs.Ytofikgjoiidhmaa

namespace Go.Proofs.Ytofikgjoiidhmaa
theorem own : ownKnob Try.prog.godebug = none := by kernel_rfl
theorem laidOut : laidOutB Try.prog = true := by kernel_rfl
end Go.Proofs.Ytofikgjoiidhmaa

namespace Go.Proofs.Ytofikgjoiidhmaa
theorem u8_le (c : UInt8) : c.toNat ≤ 255 := by have := c.toNat_lt; omega
theorem u8_ne {a b : UInt8} (h : a ≠ b) : ((a.toNat : Int) == (b.toNat : Int)) = false := by
  have h2 : a.toNat ≠ b.toNat := fun e => h (UInt8.toNat.inj e)
  simp
  omega
theorem u8_eq {a b : UInt8} (h : a = b) : ((a.toNat : Int) == (b.toNat : Int)) = true := by simp [h]
end Go.Proofs.Ytofikgjoiidhmaa

namespace Go.Proofs.Ytofikgjoiidhmaa
open Go.RowKit

/-- Block g is just these cells of one element type, none frozen. -/
def Blk (w : World) (g : Nat) (t : TypeId) (cs : Array Value) : Prop := w.heap[g]? = some (.cells cs t (0, 0))
section
variable {w w' : World} {g : Nat} {t : TypeId} {cs : Array Value}
theorem Blk.lt (h : Blk w g t cs) : g < w.heap.size := by
  rcases Nat.lt_or_ge g w.heap.size with hlt | hge
  · exact hlt
  · unfold Blk at h; rw [Array.getElem?_eq_none hge] at h; cases h
theorem Blk.cell (h : Blk w g t cs) (i : Nat) : w.cell? ⟨g, i, none⟩ = cs[i]? := cell_of_row w g i cs t (0, 0) h
theorem Blk.frozen (h : Blk w g t cs) (i : Nat) : w.frozen? ⟨g, i, none⟩ = false := by
  unfold Blk at h
  simp [World.frozen?, h]
theorem Blk.new (w : World) (t : TypeId) (cs : Array Value) : Blk (w.alloc (.cells cs t)) w.heap.size t cs := heap_alloc_new w _
theorem Blk.drew (h : Blk w g t cs) : Blk w.drew g t cs := h
theorem Blk.alloc (h : Blk w g t cs) (o : Obj) : Blk (w.alloc o) g t cs := (Below.heap_alloc w o g h.lt).trans h
theorem Blk.put (h : Blk w g t cs) (i : Nat) (u : Value) : Blk (w.setCell ⟨g, i, none⟩ u) g t (cs.setIfInBounds i u) := by
  unfold Blk at h ⊢
  simp [World.setCell, Array.getElem?_modify, h]
theorem Blk.far (h : Blk w g t cs) {p : Addr} (hp : g ≠ p.block) (u : Value) : Blk (w.setCell p u) g t cs := (Below.heap_setCell w p u g hp).trans h
theorem Blk.below {B : Nat} (h : Blk w g t cs) (hb : Below B w w') (hg : g < B) : Blk w' g t cs := (hb.block g hg).trans h
theorem Blk.grown {row : Option Nat} (h : Blk w g t cs) (hb : w.grownBy w' row) (hg : some g ≠ row) : Blk w' g t cs := (hb.block g h.lt hg).trans h
end
theorem only_drewN {a w : World} {row : Option Nat} (h : a.grownBy w row) (n : Nat) : a.grownBy (w.drewN n) row := ⟨h.os, h.tape, h.output, h.size, h.block⟩
theorem only_drew {a w : World} {row : Option Nat} (h : a.grownBy w row) : a.grownBy w.drew row := ⟨h.os, h.tape, h.output, h.size, h.block⟩
theorem only_alloc {a w : World} {row : Option Nat} (h : a.grownBy w row) (o : Obj) : a.grownBy (w.alloc o) row :=
  ⟨h.os, h.tape, h.output, Nat.le_trans h.size (by simp), fun i hi hne => (Below.heap_alloc w o i (Nat.lt_of_lt_of_le hi h.size)).trans (h.block i hi hne)⟩
theorem only_setCell {a w : World} {g : Nat} (h : a.grownBy w (some g)) {p : Addr} (hp : p.block = g ∨ a.heap.size ≤ p.block) (u : Value) : a.grownBy (w.setCell p u) (some g) :=
  ⟨h.os, h.tape, h.output, by simpa [World.setCell] using h.size, fun i hi hne => (Below.heap_setCell w p u i (by
    rintro rfl
    rcases hp with hp | hp
    · exact hne (by rw [hp])
    · omega)).trans (h.block i hi hne)⟩
theorem only_of_below {a w : World} (h : Below a.heap.size a w) (row : Option Nat) : a.grownBy w row := ⟨h.os, h.tape, h.output, h.size, fun i hi _ => h.block i hi⟩
theorem only_trans {a b c : World} {row : Option Nat} (h : a.grownBy b row) (k : b.grownBy c row) : a.grownBy c row :=
  ⟨k.os.trans h.os, k.tape.trans h.tape, k.output.trans h.output, Nat.le_trans h.size k.size, fun i hi hn => (k.block i (Nat.lt_of_lt_of_le hi h.size) hn).trans (h.block i hi hn)⟩
theorem below_of_only {a b : World} {g B : Nat} (h : a.grownBy b (some g)) (hB : B ≤ a.heap.size) (hg : B ≤ g) : Below B a b :=
  ⟨h.os, h.tape, h.output, h.size, fun k hk => h.block k (by omega) (fun e => by injection e with e; omega)⟩
end Go.Proofs.Ytofikgjoiidhmaa

namespace Go.Proofs.Ytofikgjoiidhmaa
open Go.RowKit Go

def u32v (n : Nat) : Value := .int .u32 (n : Int)
/-- A list of numbers that can be read. -/
def RdN (w : World) (v : Value) (xs : List Nat) : Prop :=
  ∃ (A : Option Addr) (cap : Nat), v = .slice A xs.length cap ∧ xs.length ≤ 4611686018427387904 ∧ ∀ i (h : i < xs.length), ∃ a, A = some a ∧ a.block < w.heap.size ∧ w.cell? (a.add i) = some (u32v xs[i])
theorem addr_addb (a : Addr) (n : Nat) : (a.add n).block = a.block := by unfold Addr.add; split <;> rfl
theorem addr_lit (b o n : Nat) : Addr.add ⟨b, o, none⟩ n = ⟨b, o + n, none⟩ := by unfold Addr.add; split <;> simp_all
theorem RdN.keep {w w' : World} {v : Value} {xs : List Nat} (h : RdN w v xs) (hs : w.heap.size ≤ w'.heap.size) (hk : ∀ p : Addr, p.block < w.heap.size → (∃ a, v = .slice (some a) xs.length (match v with | .slice _ _ c => c | _ => 0) ∧ p.block = a.block) → w'.cell? p = w.cell? p) : RdN w' v xs := by
  obtain ⟨A, cap, rfl, hl, hc⟩ := h
  refine ⟨A, cap, rfl, hl, fun i hi => ?_⟩
  obtain ⟨a, rfl, e2, e3⟩ := hc i hi
  exact ⟨a, rfl, by omega, (hk _ (by rw [addr_addb]; exact e2) ⟨a, rfl, addr_addb _ _⟩).trans e3⟩
theorem RdN.below {w w' : World} {v : Value} {xs : List Nat} (h : RdN w v xs) (hb : Below w.heap.size w w') : RdN w' v xs := h.keep hb.size fun _ hp _ => hb.cell hp
theorem RdN.of_own {w : World} {base : Nat} {e : TypeId} {v : Value} {xs : List Nat} (h : w.ownsRow base e 1 v xs.length (xs.map u32v)) (hl : xs.length ≤ 4611686018427387904) : RdN w v xs := by
  rcases h.2 with ⟨rfl, h0⟩ | ⟨g, cap, cur, rfl, hb, hg, hn, hm, hsz, ht⟩
  · refine ⟨none, 0, by rw [h0], hl, fun i hi => by omega⟩
  · refine ⟨_, cap, rfl, hl, fun i hi => ⟨⟨g, 0, none⟩, rfl, (Array.getElem?_eq_some_iff.1 hg).1, ?_⟩⟩
    rw [addr_lit, Nat.zero_add, cell_of_row w g i cur e (0, 0) hg]
    have h1 := congrArg (·[i]?) ht
    simpa [List.getElem?_take, hi] using h1
theorem own_lt {W : World} {base : Nat} {e : TypeId} {size : Nat} {v : Value} {n : Nat} {xs : List Value} (h : W.ownsRow base e size v n xs) : ∀ k, v.ownBlock = some k → base ≤ k := fun k hk => by
  rcases h.2 with ⟨rfl, _⟩ | ⟨g, cap, cur, rfl, h1, _, _⟩
  · simp [Value.ownBlock] at hk
  · obtain rfl : g = k := by simpa [Value.ownBlock] using hk
    exact h1
theorem own_empty (w : World) (e : TypeId) : (w.alloc (.cells #[] e)).ownsRow w.heap.size e 1 (.slice (some ⟨w.heap.size, 0, none⟩) 0 0) 0 [] :=
  ⟨rfl, .inr ⟨w.heap.size, 0, #[], rfl, Nat.le_refl _, heap_alloc_new w _, Nat.le_refl _, Nat.zero_le _, rfl, rfl⟩⟩
/-- A new list of numbers. -/
def NewN (w : World) (xs : List Nat) (e : Ending) (w' : World) : Prop := ∃ v, e = .returned v ∧ w'.ownsRow w.heap.size 125 1 v xs.length (xs.map u32v) ∧ Below w.heap.size w w'
theorem u32_ne {a b : Nat} (h : a ≠ b) : ((a : Int) == (b : Int)) = false := by simp; omega
theorem u32_bne {a b : Nat} (h : a ≠ b) : ((a : Int) != (b : Int)) = true := by simp; omega
theorem u32_beq (a : Nat) : ((a : Int) != (a : Int)) = false := by simp

/-- n marks, from k on. -/
def marksN (k n : Nat) : List Nat := (List.range n).map (k + ·)
theorem marksN_len (k n : Nat) : (marksN k n).length = n := by simp [marksN]
theorem marksN_succ (k i : Nat) : marksN k (i + 1) = marksN k i ++ [k + i] := by unfold marksN; rw [List.range_succ]; simp
theorem marksN_set {xs : List Nat} {k i : Nat} (h : i < xs.length) : ((marksN k i ++ xs.drop i).map u32v).set i (.int .u32 ((k : Int) + (i : Int))) = (marksN k (i + 1) ++ xs.drop (i + 1)).map u32v := by
  have e : Value.int .u32 ((k : Int) + (i : Int)) = u32v (k + i) := by unfold u32v; push_cast; rfl
  rw [e, marksN_succ, List.map_append, List.map_append, List.set_append_right _ _ (by simp [marksN_len]), List.length_map, marksN_len, Nat.sub_self, List.drop_eq_getElem_cons h, List.map_cons, List.set_cons_zero]
  simp
/-- Where marking stands: block g holds i marks, then what it held. -/
structure MarkedN (W wr : World) (g : Nat) (n : Nat) (xs : List Nat) (k i : Nat) (cap : Nat) (cur : Array Value) : Prop where
  blk : Blk wr g 125 cur
  size : cur.size = cap
  take : cur.toList.take n = (marksN k i ++ xs.drop i).map u32v
  grown : W.grownBy wr (some g)
theorem MarkedN.step {W wr : World} {g : Nat} {xs : List Nat} {k i cap : Nat} {cur : Array Value} (h : MarkedN W wr g xs.length xs k i cap cur) (hi : i < xs.length) :
    MarkedN W (wr.setCell ⟨g, i, none⟩ (.int .u32 ((k : Int) + (i : Int)))) g xs.length xs k (i + 1) cap (cur.setIfInBounds i (.int .u32 ((k : Int) + (i : Int)))) := by
  refine ⟨h.blk.put _ _, by simpa using h.size, ?_, only_setCell h.grown (.inl rfl) _⟩
  rw [Array.toList_setIfInBounds, List.take_set, h.take, marksN_set hi]
theorem MarkedN.cell {W wr : World} {g n : Nat} {xs : List Nat} {k i cap : Nat} {cur : Array Value} (h : MarkedN W wr g n xs k i cap cur) (hi : i < cap) : ∃ u, wr.cell? ⟨g, i, none⟩ = some u ∧ wr.frozen? ⟨g, i, none⟩ = false := by
  have hs := h.size
  exact ⟨cur[i]'(by omega), by rw [h.blk.cell, Array.getElem?_eq_getElem (by omega)], h.blk.frozen i⟩

end Go.Proofs.Ytofikgjoiidhmaa

namespace Go.Proofs.Ytofikgjoiidhmaa
open Go.RowKit Go

theorem infoU32 : (Try.prog.info? 125).map (fun i => (i.zero, i.size, i.bytes)) = some (some (.int .u32 0), 1, 4) := by kernel_rfl
def copied (xs : List Nat) (i : Nat) : List Nat := xs.take i ++ List.replicate (xs.length - i) 0
theorem copied_len (xs : List Nat) (i : Nat) (h : i ≤ xs.length) : (copied xs i).length = xs.length := by simp [copied]; omega
theorem copied_zero (xs : List Nat) : (copied xs 0).map u32v = List.replicate xs.length (.int .u32 0) := by simp [copied, u32v]
theorem copied_full (xs : List Nat) : copied xs xs.length = xs := by simp [copied]
theorem copied_set {xs : List Nat} {i : Nat} (h : i < xs.length) : ((copied xs i).map u32v).set i (.int .u32 (xs[i] : Int)) = (copied xs (i + 1)).map u32v := by
  have e : Value.int .u32 (xs[i] : Int) = u32v xs[i] := rfl
  rw [e, List.map_set.symm]
  congr 1
  unfold copied
  obtain ⟨m, hm⟩ : ∃ m, xs.length - i = m + 1 := ⟨xs.length - i - 1, by omega⟩
  rw [hm, show xs.length - (i + 1) = m by omega, List.replicate_succ, List.set_append_right _ _ (by simp; omega)]
  have : i - (xs.take i).length = 0 := by simp; omega
  rw [this, List.set_cons_zero, List.take_succ_eq_append_getElem h, List.append_assoc]
  rfl

end Go.Proofs.Ytofikgjoiidhmaa

namespace Go.Proofs.Ytofikgjoiidhmaa
open Go.RowKit Go

end Go.Proofs.Ytofikgjoiidhmaa

namespace Go.Proofs.Ytofikgjoiidhmaa
open Go.RowKit Go

def iv (n : Int) : Value := .int .i32 n
/-- A list of numbers that can be read. -/
def RdI (w : World) (v : Value) (xs : List Int) : Prop :=
  ∃ (A : Option Addr) (cap : Nat), v = .slice A xs.length cap ∧ xs.length ≤ 4611686018427387904 ∧ ∀ i (h : i < xs.length), ∃ a, A = some a ∧ a.block < w.heap.size ∧ w.cell? (a.add i) = some (iv xs[i])
theorem RdI.below {w w' : World} {v : Value} {xs : List Int} (h : RdI w v xs) (hb : Below w.heap.size w w') : RdI w' v xs := by
  obtain ⟨A, cap, rfl, hl, hc⟩ := h
  refine ⟨A, cap, rfl, hl, fun i hi => ?_⟩
  obtain ⟨a, rfl, e2, e3⟩ := hc i hi
  exact ⟨a, rfl, by have := hb.size; omega, (hb.cell (by rw [addr_addb]; exact e2)).trans e3⟩
theorem RdI.of_own {w : World} {base : Nat} {e : TypeId} {v : Value} {xs : List Int} (h : w.ownsRow base e 1 v xs.length (xs.map iv)) (hl : xs.length ≤ 4611686018427387904) : RdI w v xs := by
  rcases h.2 with ⟨rfl, h0⟩ | ⟨g, cap, cur, rfl, hb, hg, hn, hm, hsz, ht⟩
  · refine ⟨none, 0, by rw [h0], hl, fun i hi => by omega⟩
  · refine ⟨_, cap, rfl, hl, fun i hi => ⟨⟨g, 0, none⟩, rfl, (Array.getElem?_eq_some_iff.1 hg).1, ?_⟩⟩
    rw [addr_lit, Nat.zero_add, cell_of_row w g i cur e (0, 0) hg]
    have h1 := congrArg (·[i]?) ht
    simpa [List.getElem?_take, hi] using h1
theorem RdI.form {w : World} {v : Value} {xs : List Int} (h : RdI w v xs) : ∃ A cap, v = .slice A xs.length cap := by
  obtain ⟨A, cap, e, -⟩ := h
  exact ⟨A, cap, e⟩
/-- A new list of numbers. -/
def NewI (w : World) (xs : List Int) (e : Ending) (w' : World) : Prop := ∃ v, e = .returned v ∧ w'.ownsRow w.heap.size 21 1 v xs.length (xs.map iv) ∧ Below w.heap.size w w'

/-- n marks, from k on. -/
def marksI (k n : Nat) : List Int := (List.range n).map fun j => ((k + j : Nat) : Int)
theorem marksI_len (k n : Nat) : (marksI k n).length = n := by simp [marksI]
theorem marksI_succ (k i : Nat) : marksI k (i + 1) = marksI k i ++ [((k + i : Nat) : Int)] := by unfold marksI; rw [List.range_succ]; simp
theorem marksI_set {xs : List Int} {k i : Nat} (h : i < xs.length) : ((marksI k i ++ xs.drop i).map iv).set i (.int .i32 ((k : Int) + (i : Int))) = (marksI k (i + 1) ++ xs.drop (i + 1)).map iv := by
  have e : Value.int .i32 ((k : Int) + (i : Int)) = iv ((k + i : Nat) : Int) := by unfold iv; push_cast; rfl
  rw [e, marksI_succ, List.map_append, List.map_append, List.set_append_right _ _ (by simp [marksI_len]), List.length_map, marksI_len, Nat.sub_self, List.drop_eq_getElem_cons h, List.map_cons, List.set_cons_zero]
  simp
/-- Where marking stands: block g holds i marks, then what it held. -/
structure MarkedI (W wr : World) (g : Nat) (n : Nat) (xs : List Int) (k i : Nat) (cap : Nat) (cur : Array Value) : Prop where
  blk : Blk wr g 21 cur
  size : cur.size = cap
  take : cur.toList.take n = (marksI k i ++ xs.drop i).map iv
  grown : W.grownBy wr (some g)
theorem MarkedI.step {W wr : World} {g : Nat} {xs : List Int} {k i cap : Nat} {cur : Array Value} (h : MarkedI W wr g xs.length xs k i cap cur) (hi : i < xs.length) :
    MarkedI W (wr.setCell ⟨g, i, none⟩ (.int .i32 ((k : Int) + (i : Int)))) g xs.length xs k (i + 1) cap (cur.setIfInBounds i (.int .i32 ((k : Int) + (i : Int)))) := by
  refine ⟨h.blk.put _ _, by simpa using h.size, ?_, only_setCell h.grown (.inl rfl) _⟩
  rw [Array.toList_setIfInBounds, List.take_set, h.take, marksI_set hi]
theorem MarkedI.cell {W wr : World} {g n : Nat} {xs : List Int} {k i cap : Nat} {cur : Array Value} (h : MarkedI W wr g n xs k i cap cur) (hi : i < cap) : ∃ u, wr.cell? ⟨g, i, none⟩ = some u ∧ wr.frozen? ⟨g, i, none⟩ = false := by
  have hs := h.size
  exact ⟨cur[i]'(by omega), by rw [h.blk.cell, Array.getElem?_eq_getElem (by omega)], h.blk.frozen i⟩

theorem marksI_get (k n i : Nat) (h : i < (marksI k n).length) : (marksI k n)[i] = (k : Int) + (i : Int) := by simp [marksI]
theorem infoI : (Try.prog.info? 21).map (fun i => (i.zero, i.size, i.bytes)) = some (some (.int .i32 0), 1, 4) := by kernel_rfl
def copiedI (xs : List Int) (i : Nat) : List Int := xs.take i ++ List.replicate (xs.length - i) 0
theorem copiedI_len (xs : List Int) (i : Nat) (h : i ≤ xs.length) : (copiedI xs i).length = xs.length := by simp [copiedI]; omega
theorem copiedI_zero (xs : List Int) : (copiedI xs 0).map iv = List.replicate xs.length (.int .i32 0) := by simp [copiedI, iv]
theorem copiedI_full (xs : List Int) : copiedI xs xs.length = xs := by simp [copiedI]
theorem copiedI_set {xs : List Int} {i : Nat} (h : i < xs.length) : ((copiedI xs i).map iv).set i (.int .i32 xs[i]) = (copiedI xs (i + 1)).map iv := by
  have e : Value.int .i32 xs[i] = iv xs[i] := rfl
  rw [e, List.map_set.symm]
  congr 1
  unfold copiedI
  obtain ⟨m, hm⟩ : ∃ m, xs.length - i = m + 1 := ⟨xs.length - i - 1, by omega⟩
  rw [hm, show xs.length - (i + 1) = m by omega, List.replicate_succ, List.set_append_right _ _ (by simp; omega)]
  have : i - (xs.take i).length = 0 := by simp; omega
  rw [this, List.set_cons_zero, List.take_succ_eq_append_getElem h, List.append_assoc]
  rfl

end Go.Proofs.Ytofikgjoiidhmaa

namespace Go.Proofs.Ytofikgjoiidhmaa
open Go.RowKit Go

abbrev stA (v : Value) : Value := .agg #[v]
/-- A new list of numbers, handed back as r tells. -/
def NewR (r : Value → Value) (w : World) (xs : List Nat) (e : Ending) (w' : World) : Prop := ∃ v, e = .returned (r v) ∧ w'.ownsRow w.heap.size 125 1 v xs.length (xs.map u32v) ∧ Below w.heap.size w w'
theorem RdN.form {w : World} {v : Value} {xs : List Nat} (h : RdN w v xs) : ∃ A cap, v = .slice A xs.length cap := by
  obtain ⟨A, cap, e, -⟩ := h
  exact ⟨A, cap, e⟩
/-- A slice's length is no more than its capacity. -/
def CapOk (v : Value) : Prop := ∀ A n c, v = .slice A n c → n ≤ c
theorem own_cap {w : World} {base : Nat} {e : TypeId} {v : Value} {n : Nat} {xs : List Value} (h : w.ownsRow base e 1 v n xs) : CapOk v := by
  intro A m c hv
  rcases h.2 with ⟨rfl, h0⟩ | ⟨g, cap, cur, rfl, hb, hg, hn, -⟩
  · injection hv with h1 h2 h3
    omega
  · injection hv with h1 h2 h3
    omega
theorem below_alloc (w : World) (o : Obj) : Below w.heap.size w (w.alloc o) := (Below.refl _ _).alloc (Nat.le_refl _) _
theorem below_alloc2 (w : World) (o1 o2 : Obj) : Below w.heap.size w ((w.alloc o1).alloc o2) := ((Below.refl _ _).alloc (Nat.le_refl _) _).alloc (by simp) _
theorem below_alloc3 (w : World) (o1 o2 o3 : Obj) : Below w.heap.size w (((w.alloc o1).alloc o2).alloc o3) := (((Below.refl _ _).alloc (Nat.le_refl _) _).alloc (by simp) _).alloc (by simp; omega) _
theorem own_below {w w' : World} {base B : Nat} {e : TypeId} {v : Value} {n : Nat} {xs : List Value} (h : w.ownsRow base e 1 v n xs) (hb : Below B w w') (hB : w.heap.size ≤ B) : w'.ownsRow base e 1 v n xs :=
  h.kept (row := none) ⟨hb.os, hb.tape, hb.output, hb.size, fun i hi _ => hb.block i (by omega)⟩ (by cases v.ownBlock <;> simp)
theorem own_form {w : World} {base : Nat} {e : TypeId} {v : Value} {n : Nat} {xs : List Value} (h : w.ownsRow base e 1 v n xs) : ∃ A cap, v = .slice A n cap := by
  rcases h.2 with ⟨rfl, h0⟩ | ⟨g, cap, cur, rfl, -⟩
  · exact ⟨none, 0, by rw [h0]⟩
  · exact ⟨_, _, rfl⟩
/-- What is owned, written out: the row's whole cells. -/
structure RowIs (w : World) (base : Nat) (e : TypeId) (g n cap : Nat) (cur xs : List Value) : Prop where
  base : base ≤ g
  row : w.heap[g]? = some (.cells cur.toArray e (0, 0))
  le : n ≤ cap
  max : cap ≤ maxLen
  len : cur.length = cap
  take : cur.take n = xs
theorem own_row {w : World} {base : Nat} {e : TypeId} {v : Value} {n : Nat} {xs : List Value} (h : w.ownsRow base e 1 v n xs) (hn : 0 < n) : ∃ g cap cur, v = .slice (some ⟨g, 0, none⟩) n cap ∧ RowIs w base e g n cap cur xs := by
  rcases h.2 with ⟨rfl, h0⟩ | ⟨g, cap, cur, rfl, hb, hg, hle, hm, hsz, ht⟩
  · omega
  · exact ⟨g, cap, cur.toList, rfl, hb, by simpa using hg, hle, hm, by simpa using hsz, by simpa using ht⟩
theorem RowIs.own {w : World} {base : Nat} {e : TypeId} {g n cap : Nat} {cur xs : List Value} (h : RowIs w base e g n cap cur xs) (hl : xs.length = n) : w.ownsRow base e 1 (.slice (some ⟨g, 0, none⟩) n cap) n xs :=
  ⟨by omega, .inr ⟨g, cap, cur.toArray, rfl, h.base, h.row, h.le, h.max, by simpa using h.len, by simpa using h.take⟩⟩
theorem RowIs.lt {w : World} {base : Nat} {e : TypeId} {g n cap : Nat} {cur xs : List Value} (h : RowIs w base e g n cap cur xs) : g < w.heap.size := (Array.getElem?_eq_some_iff.1 h.row).1
theorem own_full {w : World} {base : Nat} {e : TypeId} {g n : Nat} {xs : List Value} (h : w.ownsRow base e 1 (.slice (some ⟨g, 0, none⟩) n n) n xs) (hn : 0 < n) : w.heap[g]? = some (.cells xs.toArray e (0, 0)) := by
  obtain ⟨g2, cap, cur, hv, hr⟩ := own_row h hn
  injection hv with h1 h2 h3
  injection h1 with h1
  injection h1 with h1
  subst h1 h3
  have ht := hr.take
  rw [List.take_of_length_le (by rw [hr.len]; exact Nat.le_refl _)] at ht
  rw [← ht]
  exact hr.row
theorem own_of_full {w : World} {base : Nat} {e : TypeId} {g n : Nat} {xs : List Value} (h : w.heap[g]? = some (.cells xs.toArray e (0, 0))) (hl : xs.length = n) (hb : base ≤ g) (hm : n ≤ maxLen) : w.ownsRow base e 1 (.slice (some ⟨g, 0, none⟩) n n) n xs :=
  RowIs.own ⟨hb, h, Nat.le_refl _, hm, hl, List.take_of_length_le (by omega)⟩ hl
theorem own_put {w : World} {base : Nat} {e : TypeId} {v : Value} {n : Nat} {xs : List Value} (h : w.ownsRow base e 1 v n xs) {p : Addr} (hp : p.block < base) (u : Value) : (w.setCell p u).ownsRow base e 1 v n xs :=
  h.kept (row := some p.block) (only_setCell (World.grownBy.refl _ _) (.inl rfl) _) (.inr fun e => by have := own_lt h _ e; omega)
theorem boxes2 {w w1 : World} {cs1 cs2 : Array Value} {t1 t2 : TypeId} (hb : Below ((w.alloc (.cells cs1 t1)).alloc (.cells cs2 t2)).heap.size ((w.alloc (.cells cs1 t1)).alloc (.cells cs2 t2)) w1) :
    Blk w1 w.heap.size t1 cs1 ∧ Blk w1 (w.heap.size + 1) t2 cs2 ∧ Below w.heap.size w w1 ∧ w.heap.size + 2 ≤ w1.heap.size := by
  have e : (w.alloc (.cells cs1 t1)).heap.size = w.heap.size + 1 := by simp
  have h2 := (Blk.new (w.alloc (.cells cs1 t1)) t2 cs2).below hb (by simp)
  rw [e] at h2
  exact ⟨((Blk.new w t1 cs1).alloc (.cells cs2 t2)).below hb (by simp; omega), h2, (((Below.refl _ _).alloc (Nat.le_refl _) _).alloc (by simp) _).trans (hb.mono (by simp; omega)), by have := hb.size; simp at this; omega⟩
theorem boxes1 {w w1 : World} {cs1 : Array Value} {t1 : TypeId} (hb : Below (w.alloc (.cells cs1 t1)).heap.size (w.alloc (.cells cs1 t1)) w1) :
    Blk w1 w.heap.size t1 cs1 ∧ Below w.heap.size w w1 ∧ w.heap.size + 1 ≤ w1.heap.size :=
  ⟨(Blk.new w t1 cs1).below hb (by simp), ((Below.refl _ _).alloc (Nat.le_refl _) _).trans (hb.mono (by simp)), by have := hb.size; simp at this; omega⟩
theorem st_blk {w : World} {g : Nat} {t : TypeId} {v0 : Value} (h : Blk w g t #[v0]) (v : Value) : Blk (w.setCell ⟨g, 0, none⟩ v) g t #[v] := by
  have := h.put 0 v
  simpa using this

end Go.Proofs.Ytofikgjoiidhmaa

namespace Go.Proofs.Ytofikgjoiidhmaa
open Go.RowKit Go

theorem rd_own {w : World} {base : Nat} {e : TypeId} {v : Value} {n : Nat} {ls : List Nat} (h : w.ownsRow base e 1 v n (ls.map u32v)) (hl : n ≤ 4611686018427387904) : RdN w v ls := by
  have hn : ls.length = n := by have := h.1; simpa using this
  subst hn
  exact RdN.of_own h hl
theorem RdN.drew {w : World} {v : Value} {xs : List Nat} (h : RdN w v xs) : RdN w.drew v xs := h
theorem own_apart {u v : Value} {B C : Nat} (hu : ∀ k, u.ownBlock = some k → k < B) (hv : ∀ k, v.ownBlock = some k → C ≤ k) (h : B ≤ C) : u.ownBlock = none ∨ u.ownBlock ≠ v.ownBlock := by
  cases hq : u.ownBlock with
  | none => exact .inl rfl
  | some k => exact .inr fun e => by have h1 := hu k hq; have h2 := hv k e.symm; omega
theorem own_apart2 {u v : Value} {B C : Nat} (hu : ∀ k, u.ownBlock = some k → C ≤ k) (hv : ∀ k, v.ownBlock = some k → k < B) (h : B ≤ C) : u.ownBlock = none ∨ u.ownBlock ≠ v.ownBlock := by
  cases hq : u.ownBlock with
  | none => exact .inl rfl
  | some k => exact .inr fun e => by have h1 := hu k hq; have h2 := hv k e.symm; omega
theorem box_ne {W : World} {g base : Nat} {t e : TypeId} {cs : Array Value} {v : Value} {n : Nat} {xs : List Value} (hk : Blk W g t cs) (ho : W.ownsRow base e 1 v n xs) (ht : t ≠ e) : some g ≠ v.ownBlock := by
  rcases ho.2 with ⟨rfl, -⟩ | ⟨q, cap, cur, rfl, -, hq, -⟩
  · simp [Value.ownBlock]
  · intro h
    have h : g = q := by simpa [Value.ownBlock] using h
    subst h
    unfold Blk at hk
    rw [hk] at hq
    injection hq with h1
    injection h1 with _ h2
    exact ht h2
end Go.Proofs.Ytofikgjoiidhmaa

namespace Go.Proofs.Ytofikgjoiidhmaa
open Go.RowKit Go

abbrev slV (s : Int × Int) : Value := .agg #[.int .i64 s.1, .int .i32 s.2]
def slv : List (Int × Int) → List Value
  | [] => []
  | s :: r => .int .i64 s.1 :: .int .i32 s.2 :: slv r
theorem slv_len (xs : List (Int × Int)) : (slv xs).length = xs.length * 2 := by
  induction xs with
  | nil => rfl
  | cons s r ih => simp only [slv, List.length_cons, ih]; omega
theorem slv_app (xs ys : List (Int × Int)) : slv (xs ++ ys) = slv xs ++ slv ys := by
  induction xs with
  | nil => rfl
  | cons s r ih => simp only [slv, List.cons_append, ih]
theorem slv_get0 {xs : List (Int × Int)} {i : Nat} (h : i < xs.length) : (slv xs)[i * 2]? = some (.int .i64 xs[i].1) := by
  induction xs generalizing i with
  | nil => simp at h
  | cons s r ih =>
    cases i with
    | zero => simp [slv]
    | succ i =>
      have := ih (i := i) (by simpa using h)
      rw [show (i + 1) * 2 = i * 2 + 2 by omega]
      simpa [slv] using this
theorem slv_get1 {xs : List (Int × Int)} {i : Nat} (h : i < xs.length) : (slv xs)[i * 2 + 1]? = some (.int .i32 xs[i].2) := by
  induction xs generalizing i with
  | nil => simp at h
  | cons s r ih =>
    cases i with
    | zero => simp [slv]
    | succ i =>
      have := ih (i := i) (by simpa using h)
      rw [show (i + 1) * 2 + 1 = i * 2 + 1 + 2 by omega]
      simpa [slv] using this
theorem slv_set0 {xs : List (Int × Int)} {i : Nat} (h : i < xs.length) (m : Int) : (slv xs).set (i * 2) (.int .i64 m) = slv (xs.set i (m, xs[i].2)) := by
  induction xs generalizing i with
  | nil => simp at h
  | cons s r ih =>
    cases i with
    | zero => simp [slv]
    | succ i =>
      have := ih (i := i) (by simpa using h)
      rw [show (i + 1) * 2 = i * 2 + 2 by omega]
      simpa [slv] using this
theorem slv_set1 {xs : List (Int × Int)} {i : Nat} (h : i < xs.length) (m : Int) : (slv xs).set (i * 2 + 1) (.int .i32 m) = slv (xs.set i (xs[i].1, m)) := by
  induction xs generalizing i with
  | nil => simp at h
  | cons s r ih =>
    cases i with
    | zero => simp [slv]
    | succ i =>
      have := ih (i := i) (by simpa using h)
      rw [show (i + 1) * 2 + 1 = i * 2 + 1 + 2 by omega]
      simpa [slv] using this
theorem slv_set {xs : List (Int × Int)} {i : Nat} (h : i < xs.length) (s : Int × Int) : ((slv xs).set (i * 2) (.int .i64 s.1)).set (i * 2 + 1) (.int .i32 s.2) = slv (xs.set i s) := by
  rw [slv_set0 h, slv_set1 (by simpa using h)]
  simp
theorem slv_one : ∀ {xs : List (Int × Int)}, ∀ u ∈ slv xs, u.oneCell' = true := by
  intro xs
  induction xs with
  | nil => intro u hu; cases hu
  | cons s r ih =>
    intro u hu
    simp only [slv, List.mem_cons] at hu
    rcases hu with rfl | rfl | hu
    · rfl
    · rfl
    · exact ih u hu
/-- A list of slots that can be read. -/
def RdS (w : World) (v : Value) (xs : List (Int × Int)) : Prop :=
  ∃ (A : Option Addr) (cap : Nat), v = .slice A xs.length cap ∧ xs.length ≤ 4611686018427387904 ∧ ∀ i (h : i < xs.length), ∃ a, A = some a ∧ a.block < w.heap.size ∧ w.cell? (a.add (i * 2)) = some (.int .i64 xs[i].1) ∧ w.cell? ((a.add (i * 2)).add 1) = some (.int .i32 xs[i].2)
theorem RdS.below {w w' : World} {v : Value} {xs : List (Int × Int)} (h : RdS w v xs) (hb : Below w.heap.size w w') : RdS w' v xs := by
  obtain ⟨A, cap, rfl, hl, hc⟩ := h
  refine ⟨A, cap, rfl, hl, fun i hi => ?_⟩
  obtain ⟨a, rfl, e2, e3, e4⟩ := hc i hi
  exact ⟨a, rfl, by have := hb.size; omega, (hb.cell (by rw [addr_addb]; exact e2)).trans e3, (hb.cell (by rw [addr_addb, addr_addb]; exact e2)).trans e4⟩
theorem RdS.of_own {w : World} {base : Nat} {e : TypeId} {v : Value} {xs : List (Int × Int)} (h : w.ownsRow base e 2 v xs.length (slv xs)) (hl : xs.length ≤ 4611686018427387904) : RdS w v xs := by
  rcases h.2 with ⟨rfl, h0⟩ | ⟨g, cap, cur, rfl, hb, hg, hn, hm, hsz, ht⟩
  · refine ⟨none, 0, by rw [h0], hl, fun i hi => by omega⟩
  · refine ⟨_, cap, rfl, hl, fun i hi => ⟨⟨g, 0, none⟩, rfl, (Array.getElem?_eq_some_iff.1 hg).1, ?_, ?_⟩⟩
    · rw [addr_lit, Nat.zero_add, cell_of_row w g (i * 2) cur e (0, 0) hg]
      have h1 := congrArg (·[i * 2]?) ht
      simp only [slv_get0 hi, List.getElem?_take] at h1
      rw [if_pos (by omega)] at h1
      simpa using h1
    · rw [addr_lit, Nat.zero_add, addr_lit, cell_of_row w g (i * 2 + 1) cur e (0, 0) hg]
      have h1 := congrArg (·[i * 2 + 1]?) ht
      simp only [slv_get1 hi, List.getElem?_take] at h1
      rw [if_pos (by omega)] at h1
      simpa using h1
theorem RdS.form {w : World} {v : Value} {xs : List (Int × Int)} (h : RdS w v xs) : ∃ A cap, v = .slice A xs.length cap := by
  obtain ⟨A, cap, e, -⟩ := h
  exact ⟨A, cap, e⟩
/-- A new list of slots. -/
def NewS (w : World) (xs : List (Int × Int)) (e : Ending) (w' : World) : Prop := ∃ v, e = .returned v ∧ w'.ownsRow w.heap.size 75 2 v xs.length (slv xs) ∧ Below w.heap.size w w'
/-- n marks, from k on. -/
def marksS (k n : Nat) : List (Int × Int) := (List.range n).map fun (j : Nat) => (((k + 2 * j : Nat) : Int), ((k + 2 * j + 1 : Nat) : Int))
theorem marksS_len (k n : Nat) : (marksS k n).length = n := by simp [marksS]
theorem marksS_succ (k i : Nat) : marksS k (i + 1) = marksS k i ++ [(((k + 2 * i : Nat) : Int), ((k + 2 * i + 1 : Nat) : Int))] := by unfold marksS; rw [List.range_succ, List.map_append, List.map_cons, List.map_nil]
theorem marksS_get (k n i : Nat) (h : i < (marksS k n).length) : (marksS k n)[i] = ((k : Int) + 2 * (i : Int), (k : Int) + 2 * (i : Int) + 1) := by simp [marksS]
def halfS (k i : Nat) (xs : List (Int × Int)) : List (Int × Int) := marksS k i ++ xs.drop i
theorem halfS_len (k i : Nat) (xs : List (Int × Int)) (h : i ≤ xs.length) : (halfS k i xs).length = xs.length := by simp [halfS, marksS_len]; omega
theorem halfS_set {xs : List (Int × Int)} {k i : Nat} (h : i < xs.length) : (halfS k i xs).set i ((k : Int) + 2 * (i : Int), (k : Int) + 2 * (i : Int) + 1) = halfS k (i + 1) xs := by
  unfold halfS
  rw [marksS_succ, List.set_append_right _ _ (by simp [marksS_len]), marksS_len, Nat.sub_self, List.drop_eq_getElem_cons h, List.set_cons_zero]
  simp

end Go.Proofs.Ytofikgjoiidhmaa

namespace Go.Proofs.Ytofikgjoiidhmaa
open Go.RowKit Go

/-- The cells of one slot of a list, as the walk spells them. -/
theorem RdS.item {w : World} {A : Option Addr} {n cap : Nat} {xs : List (Int × Int)} (h : RdS w (.slice A n cap) xs) {i : Nat} (hi : i < xs.length) : ∃ a, A = some a ∧ a.block < w.heap.size ∧ w.cell? (a.add (i * 2)) = some (.int .i64 xs[i].1) ∧ w.cell? ⟨(a.add (i * 2)).block, (a.add (i * 2)).off + 1, none⟩ = some (.int .i32 xs[i].2) := by
  obtain ⟨A3, c4, hv4, -, hc4⟩ := h
  injection hv4 with e1 e2 e3
  subst e1 e3
  obtain ⟨a, rfl, hb, q0, q1⟩ := hc4 i hi
  exact ⟨a, rfl, hb, q0, q1⟩
theorem infoS : (Try.prog.info? 75).map (fun i => (i.zero, i.size, i.bytes)) = some (some (.agg #[.int .i64 0, .int .i32 0]), 2, 16) := by kernel_rfl

set_option maxHeartbeats 1000000 in
theorem eqslot_same (x y : Int) (w : World) : Calls Try.prog 63 #[.agg #[.int .i64 x, .int .i32 y], .agg #[.int .i64 x, .int .i32 y]] w fun e w' => e = .returned (.bool true) ∧ Below w.heap.size w w' := by
  have q0 : (x != x) = false := by simp
  have q1 : (y != y) = false := by simp
  go_enter Try.func63, Try.ntmps63
  go_wp2
  go_ret
  exact ⟨rfl, by go_grown⟩

set_option maxHeartbeats 4000000 in
theorem eqS_same (a b : Value) (xs : List (Int × Int)) (w : World) (ha : RdS w a xs) (hb : RdS w b xs) :
    Calls Try.prog 49 #[a, b] w fun e w' => e = .returned (.bool true) ∧ Below w.heap.size w w' := by
  obtain ⟨A, ca, rfl⟩ := ha.form
  obtain ⟨B, cb, rfl⟩ := hb.form
  have HA := Lib.hid (fun W (h : Below w.heap.size w W) => ha.below h)
  have HB := Lib.hid (fun W (h : Below w.heap.size w W) => hb.below h)
  have hm : xs.length ≤ 4611686018427387904 := by
    obtain ⟨_, _, _, h, _⟩ := ha
    exact h
  clear ha hb
  have hl' : ((xs.length : Int) != (xs.length : Int)) = false := by simp
  go_enter Try.func49, Try.ntmps49
  go_wp2
  go_loopw [5] (fun vi wr => ∃ i : Nat, vi = .int .i64 i ∧ i ≤ xs.length ∧ Hid (Below w.heap.size w wr)) (fun vi _ => xs.length - (intOf vi).toNat)
  case atStart => exact ⟨0, rfl, by omega, Lib.hid (Below.refl _ _)⟩
  case round =>
    obtain ⟨i, rfl, hi, HW⟩ := hrel
    by_cases hp : i < xs.length
    · obtain ⟨a, rfl, la, p0, p1⟩ := (HA.out wr HW.out).item hp
      obtain ⟨b, rfl, lb, q0, q1⟩ := (HB.out wr HW.out).item hp
      obtain ⟨x, hx⟩ : ∃ x, xs[i] = x := ⟨_, rfl⟩
      obtain ⟨x1, x2⟩ := x
      rw [hx] at p0 p1 q0 q1
      have LA : Hid ((a.add (i * 2)).block < wr.heap.size) := Lib.hid (by rw [addr_addb]; exact la)
      have LB : Hid ((b.add (i * 2)).block < wr.heap.size) := Lib.hid (by rw [addr_addb]; exact lb)
      have i1 : (0 : Int) ≤ (i : Int) := by omega
      have i2 : (i : Int) < (xs.length : Int) := by omega
      clear hx la lb
      go_wp2_with fail
      go_region_held3 (fun w' => w'.cell? (a.add (i * 2)) = some (.int .i64 x1) ∧ w'.cell? ⟨(a.add (i * 2)).block, (a.add (i * 2)).off + 1, none⟩ = some (.int .i32 x2) ∧ w'.cell? (b.add (i * 2)) = some (.int .i64 x1) ∧ w'.cell? ⟨(b.add (i * 2)).block, (b.add (i * 2)).off + 1, none⟩ = some (.int .i32 x2)) (first | exact ⟨p0, p1, q0, q1⟩ | go_keep | exact ⟨(hbV.cell LA.out).trans p0, (hbV.cell (p := ⟨(a.add (i * 2)).block, (a.add (i * 2)).off + 1, none⟩) LA.out).trans p1, (hbV.cell LB.out).trans q0, (hbV.cell (p := ⟨(b.add (i * 2)).block, (b.add (i * 2)).off + 1, none⟩) LB.out).trans q1⟩) ((go_at_call 63; refine (eqslot_same _ _ _).mono ?_; rintro e V ⟨rfl, hbV⟩))
      have HW2 := Lib.hid (HW.out.trans (((Below.refl wr.heap.size wr).drew.trans hbV).mono HW.out.size))
      clear hbV HW p0 p1 q0 q1
      go_wp2_with fail
      go_roundw
      case rel => exact ⟨i + 1, by go_num, by omega, HW2⟩
      case measure => simp [intOf]; omega
    · go_wp2
      go_ret
      exact ⟨rfl, HW.out⟩

theorem slv_mid {xs : List (Int × Int)} {k i : Nat} (h : i < xs.length) : ((slv (halfS k i xs)).set (i * 2) (.int .i64 ((k : Int) + 2 * (i : Int)))).set (i * 2 + 1) (.int .i32 ((k : Int) + 2 * (i : Int) + 1)) = slv (halfS k (i + 1) xs) := by
  have hl := halfS_len k i xs (by omega)
  rw [slv_set (xs := halfS k i xs) (by omega) ((k : Int) + 2 * (i : Int), (k : Int) + 2 * (i : Int) + 1), halfS_set h]
set_option maxHeartbeats 4000000 in
theorem markS_any (base : Nat) (v : Value) (xs : List (Int × Int)) (k : Nat) (h1 : k ≤ 8388608) (hx : xs.length ≤ 4194304) (W : World) (hown : W.ownsRow base 75 2 v xs.length (slv xs)) :
    Calls Try.prog 33 #[v, .int .i64 k] W fun e w' => e = .returned (.int .i64 ((k : Int) + 2 * (xs.length : Int))) ∧ w'.ownsRow base 75 2 v xs.length (slv (marksS k xs.length)) ∧ W.grownBy w' v.ownBlock := by
  have hform := hown.2
  rcases hform with ⟨rfl, hn0⟩ | ⟨g, cap, cur, rfl, -⟩
  · have hxs : xs = [] := List.eq_nil_of_length_eq_zero hn0
    subst hxs
    clear hown
    go_enter Try.func33, Try.ntmps33
    go_wp2
    go_loop [1, 5] (fun vk vi => vk = .int .i64 k ∧ vi = .int .i64 0) (fun _ _ => 0)
    case atStart => exact ⟨rfl, rfl⟩
    case round =>
      obtain ⟨rfl, rfl⟩ := hrel
      go_wp2
      go_ret
      exact ⟨by simp, World.ownsRow_nil _ _ _ _, World.grownBy.refl _ _⟩
  · go_enter Try.func33, Try.ntmps33
    go_wp2
    go_loopw [1, 5] (fun vk vi wr => ∃ i : Nat, vi = .int .i64 i ∧ vk = .int .i64 ((k : Int) + 2 * (i : Int)) ∧ i ≤ xs.length ∧ Hid (wr.ownsRow base 75 2 (.slice (some ⟨g, 0, none⟩) xs.length cap) xs.length (slv (halfS k i xs))) ∧ Hid (W.grownBy wr (some g))) (fun _ vi _ => xs.length - (intOf vi).toNat)
    case atStart => exact ⟨0, rfl, by simp, by omega, Lib.hid (by simpa [halfS, marksS] using hown), Lib.hid (World.grownBy.refl _ _)⟩
    case round =>
      obtain ⟨i, rfl, rfl, hi, HO, HG⟩ := hrel
      clear hown
      by_cases hp : i < xs.length
      · have i1 : (i : Int) < (xs.length : Int) := by omega
        have hl := halfS_len k i xs (by omega)
        obtain ⟨u0, c0⟩ : ∃ u, wr.cell? ⟨g, i * 2, none⟩ = some u := ⟨_, (HO.out.cellAt (i * 2) (by omega)).trans (slv_get0 (by omega))⟩
        obtain ⟨u1, c1⟩ : ∃ u, wr.cell? ⟨g, i * 2 + 1, none⟩ = some u := ⟨_, (HO.out.cellAt (i * 2 + 1) (by omega)).trans (slv_get1 (by omega))⟩
        have f0 := HO.out.frozenAt (i * 2)
        have f1 := HO.out.frozenAt (i * 2 + 1)
        have s1 := HO.out.stored (i * 2) (.int .i64 ((k : Int) + 2 * (i : Int)))
        have s2 := s1.1.stored (i * 2 + 1) (.int .i32 ((k : Int) + 2 * (i : Int) + 1))
        have hs := s2.1
        rw [slv_mid hp] at hs
        have HS := Lib.hid hs
        have HG2 := Lib.hid (only_trans HG.out (only_trans s1.2 s2.2))
        clear s1 s2 hs hl HO HG
        go_wp2
        go_roundw
        case rel => exact ⟨i + 1, by go_num, by go_num, by omega, HS, HG2⟩
        case measure => simp [intOf]; omega
      · obtain rfl : i = xs.length := by omega
        go_wp2
        go_ret
        have h2 := HO.out
        simp only [halfS, List.drop_length, List.append_nil] at h2
        exact ⟨rfl, h2, HG.out⟩

set_option maxHeartbeats 1000000 in
theorem toslot_any (x y : Int) (w : World) : Calls Try.prog 55 #[.agg #[.int .i64 x, .int .i32 y]] w fun e w' => e = .returned (.agg #[.int .i64 x, .int .i32 y]) ∧ Below w.heap.size w w' := by
  go_enter Try.func55, Try.ntmps55
  go_wp2
  exact bodyPost_ret (v := .agg #[.int .i64 x, .int .i32 y]) (by simp [results, Try.results55, go_sem]) rfl ⟨rfl, by go_grown⟩

def copiedS (xs : List (Int × Int)) (i : Nat) : List (Int × Int) := xs.take i ++ List.replicate (xs.length - i) (0, 0)
theorem copiedS_len (xs : List (Int × Int)) (i : Nat) (h : i ≤ xs.length) : (copiedS xs i).length = xs.length := by simp [copiedS]; omega
theorem slv_rep (n : Nat) : slv (List.replicate n (0, 0)) = (List.replicate n [Value.int .i64 0, Value.int .i32 0]).flatten := by
  induction n with
  | zero => rfl
  | succ n ih => simp only [List.replicate_succ, slv, ih, List.flatten_cons, List.cons_append, List.nil_append]
theorem copiedS_zero (xs : List (Int × Int)) : slv (copiedS xs 0) = (List.replicate xs.length [Value.int .i64 0, Value.int .i32 0]).flatten := by simp [copiedS, slv_rep]
theorem copiedS_full (xs : List (Int × Int)) : copiedS xs xs.length = xs := by simp [copiedS]
theorem copiedS_set {xs : List (Int × Int)} {i : Nat} (h : i < xs.length) : ((slv (copiedS xs i)).set (i * 2) (.int .i64 xs[i].1)).set (i * 2 + 1) (.int .i32 xs[i].2) = slv (copiedS xs (i + 1)) := by
  rw [slv_set (xs := copiedS xs i) (by rw [copiedS_len xs i (by omega)]; exact h)]
  congr 1
  unfold copiedS
  obtain ⟨m, hm⟩ : ∃ m, xs.length - i = m + 1 := ⟨xs.length - i - 1, by omega⟩
  rw [hm, show xs.length - (i + 1) = m by omega, List.replicate_succ, List.set_append_right _ _ (by simp; omega)]
  have : i - (xs.take i).length = 0 := by simp; omega
  rw [this, List.set_cons_zero, List.take_succ_eq_append_getElem h, List.append_assoc]
  rfl
theorem made_slv (n : Nat) : (madeCells #[Value.int .i64 0, Value.int .i32 0] (n * 2)).toList = slv (List.replicate n (0, 0)) := by
  refine List.ext_getElem (by simp [madeCells, slv_len]) fun i h1 h2 => ?_
  have h3 : i < n * 2 := by simpa [madeCells] using h1
  obtain ⟨j, hj⟩ : ∃ j, i = j * 2 ∨ i = j * 2 + 1 := ⟨i / 2, by omega⟩
  rcases hj with rfl | rfl
  · have := slv_get0 (xs := List.replicate n (0, 0)) (i := j) (by simp; omega)
    rw [List.getElem?_eq_getElem h2] at this
    rw [Option.some.inj this]
    simp [madeCells]
  · have := slv_get1 (xs := List.replicate n (0, 0)) (i := j) (by simp; omega)
    rw [List.getElem?_eq_getElem h2] at this
    rw [Option.some.inj this]
    have e : (j * 2 + 1) % 2 = 1 := by omega
    simp [madeCells, e]
set_option maxHeartbeats 4000000 in
theorem toS_any (v : Value) (xs : List (Int × Int)) (hx : xs.length ≤ 4194304) (W : World) (ha : RdS W v xs) : Calls Try.prog 42 #[v] W (NewS W xs) := by
  obtain ⟨i0, hi, hz0, hz1, hz2⟩ := info_parts infoS
  obtain ⟨A, ca, rfl⟩ := ha.form
  have HA := Lib.hid (fun w (h : Below W.heap.size W w) => ha.below h)
  clear ha
  go_enter Try.func42, Try.ntmps42
  go_wp2_with (refine wpList_make_full _ rfl _ _ _ rfl W.heap.size 75 i0 (.agg #[.int .i64 0, .int .i32 0]) 2 Try.underlying50 hi hz0 hz1 .i64 .i64 _ _ xs.length rfl rfl rfl rfl (by rw [hz2]; omega) (by unfold maxLen; omega) (Nat.le_refl _) ?_; intro w1 hown hgr)
  have hb1 : Below W.heap.size W w1 := (Below.refl _ _).grown hgr (Nat.le_refl _) (fun k hk => by cases hk)
  have hown1 : w1.ownsRow W.heap.size 75 2 (.slice (some ⟨W.heap.size, 0, none⟩) xs.length xs.length) xs.length (slv (copiedS xs 0)) := by
    have e : (madeCells (Value.agg #[Value.int .i64 0, Value.int .i32 0]).cells (xs.length * 2)).toList = slv (copiedS xs 0) := by
      have ec : copiedS xs 0 = List.replicate xs.length (0, 0) := by simp [copiedS]
      rw [ec]
      exact made_slv _
    rw [e] at hown
    exact hown
  have HB1 := Lib.hid hb1
  have HOWN1 := Lib.hid hown1
  clear hown hgr hb1 hown1
  go_loopw [4] (fun vi wr => ∃ i : Nat, vi = .int .i64 i ∧ i ≤ xs.length ∧ Hid (wr.ownsRow W.heap.size 75 2 (.slice (some ⟨W.heap.size, 0, none⟩) xs.length xs.length) xs.length (slv (copiedS xs i))) ∧ Hid (Below W.heap.size W wr)) (fun vi _ => xs.length - (intOf vi).toNat)
  case atStart => exact ⟨0, rfl, by omega, HOWN1, HB1⟩
  case round =>
    clear HOWN1 HB1
    obtain ⟨i, rfl, hi2, HO, HB⟩ := hrel
    by_cases hp : i < xs.length
    · obtain ⟨ga, rfl, -, c0, c1⟩ := (HA.out wr HB.out).item hp
      obtain ⟨x, hx'⟩ : ∃ x, xs[i] = x := ⟨_, rfl⟩
      obtain ⟨x1, x2⟩ := x
      have HX := Lib.hid hx'
      rw [hx'] at c0 c1
      have i2 : (i : Int) < (xs.length : Int) := by omega
      clear hx'
      go_wp2_with fail
      refine (toslot_any x1 x2 _).mono ?_
      rintro e w2 ⟨rfl, hb2⟩
      have hl := copiedS_len xs i (by omega)
      have HB2 := Lib.hid (HB.out.trans (hb2.mono HB.out.size))
      have HO2 := Lib.hid (HO.out.kept (only_of_below hb2 none) (by simp [Value.ownBlock]))
      obtain ⟨u0, d0⟩ : ∃ u, w2.cell? ⟨W.heap.size, i * 2, none⟩ = some u := ⟨_, (HO2.out.cellAt (i * 2) (by omega)).trans (slv_get0 (by omega))⟩
      obtain ⟨u1, d1⟩ : ∃ u, w2.cell? ⟨W.heap.size, i * 2 + 1, none⟩ = some u := ⟨_, (HO2.out.cellAt (i * 2 + 1) (by omega)).trans (slv_get1 (by omega))⟩
      have f0 := HO2.out.frozenAt (i * 2)
      have f1 := HO2.out.frozenAt (i * 2 + 1)
      have s1 := HO2.out.stored (i * 2) (.int .i64 x1)
      have s2 := s1.1.stored (i * 2 + 1) (.int .i32 x2)
      have hs := s2.1
      have hcs := copiedS_set (xs := xs) hp
      rw [HX.out] at hcs
      rw [hcs] at hs
      have HS := Lib.hid hs
      have HG2 := Lib.hid (only_trans s1.2 s2.2)
      clear s1 s2 hs hl HO HB hb2 hcs HO2 c0 c1
      go_wp2_with fail
      go_roundw
      case rel => exact ⟨i + 1, by go_num, by omega, HS, Lib.hid (HB2.out.grown HG2.out HB2.out.size (fun k hk => by injection hk with hk; omega))⟩
      case measure => simp [intOf]; omega
    · obtain rfl : i = xs.length := by omega
      have h2 := HO.out
      rw [copiedS_full] at h2
      have H2 := Lib.hid h2
      clear h2 HO
      go_wp2
      go_ret
      exact ⟨_, rfl, H2.out, HB.out⟩
end Go.Proofs.Ytofikgjoiidhmaa

namespace Go.Proofs.Ytofikgjoiidhmaa
open Go.ChangeShapes Go.WideShapes Go.ChangeAt Go.RowKit Go

theorem lt_of_cell_p {w : World} {a : Addr} {v : Value} (h : w.cell? a = some v) : a.block < w.heap.size := by
  rcases Nat.lt_or_ge a.block w.heap.size with hl | hl
  · exact hl
  · have e : w.heap[a.block]? = none := Array.getElem?_eq_none hl
    simp [World.cell?, e] at h
theorem wf32o (n : Int) (h : (Lit.int .i32 n).wf = true) : -2147483648 ≤ n ∧ n ≤ 2147483647 := by
  simp [Lit.wf, IntKind.min, IntKind.max, IntKind.signed, IntKind.bits] at h
  omega
theorem wf64o (n : Int) (h : (Lit.int .i64 n).wf = true) : -9223372036854775808 ≤ n ∧ n ≤ 9223372036854775807 := by
  simp [Lit.wf, IntKind.min, IntKind.max, IntKind.signed, IntKind.bits] at h
  omega
/-- A list of ops that comes in. -/
def OpsIn (W : World) (A : Option Addr) (len c : Nat) : Prop :=
  len ≤ 9223372036854775807 ∧ (len ≤ 4611686018427387904 → ∃ xs : List (Int × Int), xs.length = len ∧ (∀ x ∈ xs, (-9223372036854775808 ≤ x.1 ∧ x.1 ≤ 9223372036854775807) ∧ (-2147483648 ≤ x.2 ∧ x.2 ≤ 2147483647)) ∧ RdS W (.slice A len c) xs)
set_option maxRecDepth 100000 in
theorem ops_cell {H : Type} {enc : TypeId × Value → H} {W : World} {c0 : Value} {fuel : Nat} {x : DataW H × List MemPlace}
    (hf : DataW.trod enc Try.prog W 0 (fun _ => true) true fuel 43 [c0] = some x) : ∃ A len c, c0 = .slice A len c ∧ OpsIn W A len c := by
  have kz : Try.prog.cellsOf 94 = 2 := by kernel_rfl
  have k1 : Try.prog.cellsOf 3 = 1 := by kernel_rfl
  have k2 : Try.prog.cellsOf 21 = 1 := by kernel_rfl
  rcases Go.Deep.open_slice Try.underlying43 hf with ⟨hcs, -⟩ | ⟨a, len, cap, m, n, D, Pl, hcs, -, hl, hm, hmm, -, hi⟩
  · obtain rfl : c0 = .slice none 0 0 := by simpa using hcs
    exact ⟨none, 0, 0, rfl, by omega, fun _ => ⟨[], rfl, fun x hx => by simp at hx, none, 0, rfl, by simp, fun i hi => by simp at hi⟩⟩
  · obtain rfl : c0 = .slice (some a) len cap := by simpa using hcs
    unfold maxLen at hm
    have hlm : len ≤ m := by rw [hmm]; split <;> omega
    have key : ∀ i, i < len → ∃ u z : Int, ((-9223372036854775808 ≤ u ∧ u ≤ 9223372036854775807) ∧ (-2147483648 ≤ z ∧ z ≤ 2147483647)) ∧ W.cell? (a.add (i * 2)) = some (.int .i64 u) ∧ W.cell? ((a.add (i * 2)).add 1) = some (.int .i32 z) := by
      intro i hil
      obtain ⟨cs', hcc, htr⟩ := hi i (by omega)
      rw [kz] at hcc
      obtain ⟨_, hcl, hat⟩ := World.cells?_some hcc
      obtain ⟨ys, n', _, _, _, hyl, hff⟩ := DataW.trod_struct Try.underlying94 htr
      match cs', hcl with
      | [y0, y1], _ =>
        have l2 : ys.length = 2 := hyl
        have f0 : DataW.trod enc Try.prog W 0 (fun _ => true) true n' 3 (([y0, y1].drop 0).take (Try.prog.cellsOf 3)) = some (ys[0]'(by omega)) := (hff 0 _ rfl).trans (List.getElem?_eq_getElem (show 0 < ys.length by omega))
        have f1 : DataW.trod enc Try.prog W 0 (fun _ => true) true n' 21 (([y0, y1].drop 1).take (Try.prog.cellsOf 21)) = some (ys[1]'(by omega)) := (hff 1 _ rfl).trans (List.getElem?_eq_getElem (show 1 < ys.length by omega))
        rw [k1] at f0
        rw [k2] at f1
        obtain ⟨u, hu, -, wu⟩ := DataW.trod_int Try.underlying3 f0
        obtain ⟨z, hz, -, wz⟩ := DataW.trod_int Try.underlying21 f1
        have hu' : y0 = .int .i64 u := by simpa using hu
        have hz' : y1 = .int .i32 z := by simpa using hz
        refine ⟨u, z, ⟨wf64o u wu, wf32o z wz⟩, ?_, ?_⟩
        · have := hat 0 (by omega)
          rw [show (a.add (i * 2)).add 0 = a.add (i * 2) by simp [Addr.add]] at this
          rw [this, hu']
          rfl
        · rw [hat 1 (by omega), hz']
          rfl
    refine ⟨some a, len, cap, rfl, by omega, fun h62 => ?_⟩
    obtain ⟨f, hfx⟩ : ∃ f : Nat → Int × Int, ∀ i, i < len → ((-9223372036854775808 ≤ (f i).1 ∧ (f i).1 ≤ 9223372036854775807) ∧ (-2147483648 ≤ (f i).2 ∧ (f i).2 ≤ 2147483647)) ∧ W.cell? (a.add (i * 2)) = some (.int .i64 (f i).1) ∧ W.cell? ((a.add (i * 2)).add 1) = some (.int .i32 (f i).2) := by
      refine ⟨fun i => if h : i < len then (Classical.choose (key i h), Classical.choose (Classical.choose_spec (key i h))) else (0, 0), fun i h => ?_⟩
      have hs := Classical.choose_spec (Classical.choose_spec (key i h))
      simp only [dif_pos h]
      exact hs
    refine ⟨(List.range len).map f, by simp, fun x hx => ?_, some a, cap, by simp, by simp; omega, fun i hi => ?_⟩
    · obtain ⟨i, hi, rfl⟩ := List.mem_map.1 hx
      exact (hfx i (List.mem_range.1 hi)).1
    · have hil : i < len := by simpa using hi
      have h3 := (hfx i hil).2
      refine ⟨a, rfl, ?_, by simpa using h3.1, by simpa using h3.2⟩
      have h1 := lt_of_cell_p h3.1
      rw [addr_addb] at h1
      exact h1
theorem ops_in {H : Type} {enc : TypeId × Value → H} {W : World} {A : Option Addr} {len cap : Nat} {d : DataW H} {p : List MemPlace}
    (h : DataW.Trod enc Try.prog W 0 (fun _ => true) true 43 (.slice A len cap) d p) : OpsIn W A len cap := by
  obtain ⟨fuel, hf⟩ := h
  obtain ⟨A2, len2, c2, e2, hn⟩ := ops_cell (show DataW.trod enc Try.prog W 0 (fun _ => true) true fuel 43 [.slice A len cap] = some (d, p) from hf)
  injection e2 with h1 h2 h3
  subst h1 h2 h3
  exact hn
end Go.Proofs.Ytofikgjoiidhmaa

namespace Go.Proofs.Ytofikgjoiidhmaa
open Go.RowKit Go

def dfv : List (ByteArray × Value) → List Value
  | [] => []
  | s :: r => .string s.1 :: s.2 :: dfv r
theorem dfv_len (xs : List (ByteArray × Value)) : (dfv xs).length = xs.length * 2 := by
  induction xs with
  | nil => rfl
  | cons s r ih => simp only [dfv, List.length_cons, ih]; omega
theorem dfv_app (xs ys : List (ByteArray × Value)) : dfv (xs ++ ys) = dfv xs ++ dfv ys := by
  induction xs with
  | nil => rfl
  | cons s r ih => simp only [dfv, List.cons_append, ih]
theorem dfv_get0 {xs : List (ByteArray × Value)} {i : Nat} (h : i < xs.length) : (dfv xs)[i * 2]? = some (.string xs[i].1) := by
  induction xs generalizing i with
  | nil => simp at h
  | cons s r ih =>
    cases i with
    | zero => simp [dfv]
    | succ i =>
      have := ih (i := i) (by simpa using h)
      rw [show (i + 1) * 2 = i * 2 + 2 by omega]
      simpa [dfv] using this
theorem dfv_get1 {xs : List (ByteArray × Value)} {i : Nat} (h : i < xs.length) : (dfv xs)[i * 2 + 1]? = some xs[i].2 := by
  induction xs generalizing i with
  | nil => simp at h
  | cons s r ih =>
    cases i with
    | zero => simp [dfv]
    | succ i =>
      have := ih (i := i) (by simpa using h)
      rw [show (i + 1) * 2 + 1 = i * 2 + 1 + 2 by omega]
      simpa [dfv] using this
theorem dfv_set0 {xs : List (ByteArray × Value)} {i : Nat} (h : i < xs.length) (m : ByteArray) : (dfv xs).set (i * 2) (.string m) = dfv (xs.set i (m, xs[i].2)) := by
  induction xs generalizing i with
  | nil => simp at h
  | cons s r ih =>
    cases i with
    | zero => simp [dfv]
    | succ i =>
      have := ih (i := i) (by simpa using h)
      rw [show (i + 1) * 2 = i * 2 + 2 by omega]
      simpa [dfv] using this
theorem dfv_set1 {xs : List (ByteArray × Value)} {i : Nat} (h : i < xs.length) (m : Value) : (dfv xs).set (i * 2 + 1) m = dfv (xs.set i (xs[i].1, m)) := by
  induction xs generalizing i with
  | nil => simp at h
  | cons s r ih =>
    cases i with
    | zero => simp [dfv]
    | succ i =>
      have := ih (i := i) (by simpa using h)
      rw [show (i + 1) * 2 + 1 = i * 2 + 1 + 2 by omega]
      simpa [dfv] using this
theorem dfv_set {xs : List (ByteArray × Value)} {i : Nat} (h : i < xs.length) (s : ByteArray × Value) : ((dfv xs).set (i * 2) (.string s.1)).set (i * 2 + 1) s.2 = dfv (xs.set i s) := by
  rw [dfv_set0 h, dfv_set1 (by simpa using h)]
  simp
/-- A definition: its name and its ops. -/
abbrev Df := ByteArray × List (Int × Int)
/-- A list of definitions that can be read. -/
def RdD (w : World) (v : Value) (ds : List Df) : Prop :=
  ∃ (A : Option Addr) (cap : Nat), v = .slice A ds.length cap ∧ ∀ i (h : i < ds.length), ∃ a vb, A = some a ∧ a.block < w.heap.size ∧ w.cell? (a.add (i * 2)) = some (.string ds[i].1) ∧ w.cell? ((a.add (i * 2)).add 1) = some vb ∧ RdS w vb ds[i].2
theorem RdD.below {w w' : World} {v : Value} {ds : List Df} (h : RdD w v ds) (hb : Below w.heap.size w w') : RdD w' v ds := by
  obtain ⟨A, cap, rfl, hc⟩ := h
  refine ⟨A, cap, rfl, fun i hi => ?_⟩
  obtain ⟨a, vb, rfl, e2, e3, e4, e5⟩ := hc i hi
  exact ⟨a, vb, rfl, by have := hb.size; omega, (hb.cell (by rw [addr_addb]; exact e2)).trans e3, (hb.cell (by rw [addr_addb, addr_addb]; exact e2)).trans e4, e5.below hb⟩
theorem RdD.form {w : World} {v : Value} {ds : List Df} (h : RdD w v ds) : ∃ A cap, v = .slice A ds.length cap := by
  obtain ⟨A, cap, e, -⟩ := h
  exact ⟨A, cap, e⟩
/-- The cells of one definition of a list, as the walk spells them. -/
theorem RdD.item {w : World} {A : Option Addr} {n cap : Nat} {ds : List Df} (h : RdD w (.slice A n cap) ds) {i : Nat} (hi : i < ds.length) : ∃ a B m bc, A = some a ∧ a.block < w.heap.size ∧ w.cell? (a.add (i * 2)) = some (.string ds[i].1) ∧ w.cell? ⟨(a.add (i * 2)).block, (a.add (i * 2)).off + 1, none⟩ = some (.slice B m bc) ∧ RdS w (.slice B m bc) ds[i].2 ∧ m = ds[i].2.length := by
  obtain ⟨A3, c4, hv4, hc4⟩ := h
  injection hv4 with e1 e2 e3
  subst e1 e3
  obtain ⟨a, vb, rfl, hb, q0, q1, q2⟩ := hc4 i hi
  obtain ⟨B, bc, rfl⟩ := q2.form
  exact ⟨a, B, _, bc, rfl, hb, q0, q1, q2, rfl⟩
/-- Definitions whose parts aren't too long. -/
def SmD (ds : List Df) : Prop := ds.length ≤ 1048576 ∧ ∀ d ∈ ds, d.1.size ≤ 1048576 ∧ d.2.length ≤ 1048576 ∧ ∀ o ∈ d.2, -2147483648 ≤ o.2 ∧ o.2 ≤ 2147483647
/-- A new list of definitions. -/
def NewD (w : World) (ds : List Df) (e : Ending) (w' : World) : Prop := ∃ v, e = .returned v ∧ RdD w' v ds ∧ Below w.heap.size w w'
/-- A list of definitions that comes in. -/
def DefsIn (W : World) (A : Option Addr) (len : Nat) : Prop :=
  len ≤ 9223372036854775807 ∧ ∃ (f : Nat → ByteArray × Option Addr × Nat × Nat), ∀ i, i < len → ∃ a, A = some a ∧ a.block < W.heap.size ∧ W.cell? (a.add (i * 2)) = some (.string (f i).1) ∧ W.cell? ((a.add (i * 2)).add 1) = some (.slice (f i).2.1 (f i).2.2.1 (f i).2.2.2) ∧ (f i).1.size ≤ 9223372036854775807 ∧ OpsIn W (f i).2.1 (f i).2.2.1 (f i).2.2.2
theorem rdd_of {W : World} {A : Option Addr} {len c : Nat} (hlen : len ≤ 1048576) (f : Nat → ByteArray × Option Addr × Nat × Nat) (hf : ∀ i, i < len → ∃ a, A = some a ∧ a.block < W.heap.size ∧ W.cell? (a.add (i * 2)) = some (.string (f i).1) ∧ W.cell? ((a.add (i * 2)).add 1) = some (.slice (f i).2.1 (f i).2.2.1 (f i).2.2.2) ∧ (f i).1.size ≤ 9223372036854775807 ∧ OpsIn W (f i).2.1 (f i).2.2.1 (f i).2.2.2)
    (hs : ∀ i, i < len → (f i).1.size ≤ 1048576 ∧ (f i).2.2.1 ≤ 1048576) : ∃ ds : List Df, ds.length = len ∧ SmD ds ∧ RdD W (.slice A len c) ds := by
  have key : ∀ i, i < len → ∃ xs : List (Int × Int), xs.length = (f i).2.2.1 ∧ (∀ o ∈ xs, -2147483648 ≤ o.2 ∧ o.2 ≤ 2147483647) ∧ RdS W (.slice (f i).2.1 (f i).2.2.1 (f i).2.2.2) xs := fun i hi => by
    obtain ⟨a, -, -, -, -, -, -, ho⟩ := hf i hi
    obtain ⟨xs, h1, h2, h3⟩ := ho (by have := (hs i hi).2; omega)
    exact ⟨xs, h1, fun o ho => (h2 o ho).2, h3⟩
  obtain ⟨g, hg⟩ := Go.Deep.choose_lt key
  refine ⟨(List.range len).map fun i => ((f i).1, g i), by simp, ⟨by simp; omega, fun d hd => ?_⟩, A, c, by simp, fun i hi => ?_⟩
  · obtain ⟨i, hi, rfl⟩ := List.mem_map.1 hd
    have hi := List.mem_range.1 hi
    exact ⟨(hs i hi).1, by rw [(hg i hi).1]; exact (hs i hi).2, (hg i hi).2.1⟩
  · have hil : i < len := by simpa using hi
    obtain ⟨a, e1, e2, e3, e4, -⟩ := hf i hil
    exact ⟨a, _, e1, e2, by simpa using e3, e4, by simpa using (hg i hil).2.2⟩
end Go.Proofs.Ytofikgjoiidhmaa

namespace Go.Proofs.Ytofikgjoiidhmaa
open Go.ChangeShapes Go.WideShapes Go.ChangeAt Go.RowKit Go

set_option maxRecDepth 100000 in
theorem defs_in {H : Type} {enc : TypeId × Value → H} {W : World} {A : Option Addr} {len cap : Nat} {d : DataW H} {p : List MemPlace}
    (h : DataW.Trod enc Try.prog W 0 (fun _ => true) true 22 (.slice A len cap) d p) : DefsIn W A len := by
  have kz : Try.prog.cellsOf 45 = 2 := by kernel_rfl
  have k1 : Try.prog.cellsOf 9 = 1 := by kernel_rfl
  have k2 : Try.prog.cellsOf 43 = 1 := by kernel_rfl
  obtain ⟨fuel, hf⟩ := h
  rcases Go.Deep.open_slice Try.underlying22 (show DataW.trod enc Try.prog W 0 (fun _ => true) true fuel 22 [.slice A len cap] = some (d, p) from hf) with ⟨hcs, -⟩ | ⟨a, len2, cap2, m, n, D, Pl, hcs, -, hl, hm, hmm, -, hi⟩
  · injection hcs with hcs _
    injection hcs with e1 e2 e3
    subst e1 e2 e3
    exact ⟨by omega, fun _ => default, fun i hi => by omega⟩
  · injection hcs with hcs _
    injection hcs with e1 e2 e3
    subst e1 e2 e3
    unfold maxLen at hm
    have hlm : len ≤ m := by rw [hmm]; split <;> omega
    have key : ∀ i, i < len → ∃ x : ByteArray × Option Addr × Nat × Nat, W.cell? (a.add (i * 2)) = some (.string x.1) ∧ W.cell? ((a.add (i * 2)).add 1) = some (.slice x.2.1 x.2.2.1 x.2.2.2) ∧ x.1.size ≤ 9223372036854775807 ∧ OpsIn W x.2.1 x.2.2.1 x.2.2.2 := by
      intro i hil
      obtain ⟨cs', hcc, htr⟩ := hi i (by omega)
      rw [kz] at hcc
      obtain ⟨_, hcl, hat⟩ := World.cells?_some hcc
      obtain ⟨ys, n', _, _, _, hyl, hff⟩ := DataW.trod_struct Try.underlying45 htr
      match cs', hcl with
      | [y0, y1], _ =>
        have l2 : ys.length = 2 := hyl
        have f0 : DataW.trod enc Try.prog W 0 (fun _ => true) true n' 9 (([y0, y1].drop 0).take (Try.prog.cellsOf 9)) = some (ys[0]'(by omega)) := (hff 0 _ rfl).trans (List.getElem?_eq_getElem (show 0 < ys.length by omega))
        have f1 : DataW.trod enc Try.prog W 0 (fun _ => true) true n' 43 (([y0, y1].drop 1).take (Try.prog.cellsOf 43)) = some (ys[1]'(by omega)) := (hff 1 _ rfl).trans (List.getElem?_eq_getElem (show 1 < ys.length by omega))
        rw [k1] at f0
        rw [k2] at f1
        obtain ⟨s, hs, -, ws⟩ := DataW.trod_string Try.underlying9 f0
        have hs' : y0 = .string s := by simpa using hs
        obtain ⟨A2, n2, c2, hy1, ho⟩ := ops_cell (show DataW.trod enc Try.prog W 0 (fun _ => true) true n' 43 [y1] = some (ys[1]'(by omega)) from f1)
        refine ⟨(s, A2, n2, c2), ?_, ?_, by unfold maxLen at ws; exact ws, ho⟩
        · have := hat 0 (by omega)
          rw [show (a.add (i * 2)).add 0 = a.add (i * 2) by simp [Addr.add]] at this
          rw [this, hs']
          rfl
        · rw [hat 1 (by omega), hy1]
          rfl
    obtain ⟨f, hfx⟩ := Go.Deep.choose_lt key
    refine ⟨by omega, f, fun i hil => ?_⟩
    obtain ⟨h1, h2, h3, h4⟩ := hfx i hil
    refine ⟨a, rfl, ?_, h1, h2, h3, h4⟩
    have h5 := lt_of_cell_p h1
    rw [addr_addb] at h5
    exact h5
end Go.Proofs.Ytofikgjoiidhmaa
