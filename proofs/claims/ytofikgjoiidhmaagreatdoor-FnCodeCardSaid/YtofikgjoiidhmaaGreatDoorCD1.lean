/-
  From a walk that ends in 'true' and 'nothing that was there has changed' to what a law's row says behind the call, at every program and every shape of the arguments.
  What every row of this seat asks of the program as a whole.
  What the walks of this seat import.
  A block that is known whole: what it holds, and how it is kept.
  Lists of numbers of 32 bits: whether two are alike, a copy of one, the marks that are laid into one, whether they lie there.
  The forty-eight letters and their codes, as plain functions.
  Bits of numbers: masks and shifts as remainders and quotients.
  Which letter's code stands first in a text of bits, as a plain function.
  A letter comes back from its number and from its code, whatever bits stand behind it.
  Fields of names, and names of fields, as plain functions.
  Lists of bytes of the call's own; a text of them.
  The model's small test: spec.l01In answers whether a number lies between two.
  The letters: LetterAt, WidthOf and LetterOf, of the program and of its model, answer the plain functions.
  The letters: WidthOf and LetterOf, of the program and of its model, answer the plain functions.
-/
import Derived.ProofKit
import Derived.WalkKit
import Derived.LaidMore
import Derived.OpenShut
import Derived.Stop.Joined
import Derived.Sort.Grow
import Derived.Lib.Hide
import Derived.Deep.Draws
import Derived.OpenVars
import Derived.ChangeVars
import Derived.Test.YtofikgjoiidhmaaGreatDoorRows
import Derived.MakeChecks
import Derived.Test.YtofikgjoiidhmaaGreatDoorProg
import Derived.WalkSpells
import Derived.WalkSmall
import Derived.LoopTactic
import Derived.BigQuiet
import Derived.Deep.QuietTactic
import Derived.WalkMore
import Derived.ScopeJumps
import Derived.Below
import Derived.Laws.Rows
import Derived.Deep.DrawnRows
import Derived.DataElems
import Derived.Lib.Bytealg
import Derived.Lib.IndexLaws
import Derived.Laws.BytesArg
import Derived.Test.YtofikgjoiidhmaaGreatDoorShelf
namespace Go.Proofs.YtofikgjoiidhmaaGreatDoor
open Go.ChangeShapes Go.WideShapes Go.ChangeAt Go.RowKit

theorem below_drewN {B : Nat} {a w : World} (h : Below B a w) (n : Nat) : Below B a (w.drewN n) := ⟨h.os, h.tape, h.output, h.size, h.block⟩
theorem below_grow {B : Nat} {a w : World} (h : Below B a w) (os : Array Obj) (hB : B ≤ w.heap.size) : Below B a (Go.Sort.grow w os) :=
  h.trans ⟨rfl, rfl, rfl, by simp [Go.Sort.grow], fun k hk => by show (w.heap ++ os)[k]? = _; rw [Array.getElem?_append_left (by omega)]⟩
theorem below_regrow (w : World) (k : Nat) (os : Array Obj) : Below w.heap.size w (Go.Sort.grow (w.drewN k) os) := below_grow (below_drewN (Below.refl _ _) k) os (by simp)
theorem bcell {W w1 : World} (hb : Below W.heap.size W w1) : (∀ b o, b < W.heap.size → w1.cell? ⟨b, o, none⟩ = W.cell? ⟨b, o, none⟩) ∧ (∀ b o, b < W.heap.size → w1.frozen? ⟨b, o, none⟩ = W.frozen? ⟨b, o, none⟩) :=
  ⟨fun b o h => hb.cell (p := ⟨b, o, none⟩) h, fun b o h => hb.frozen (p := ⟨b, o, none⟩) h⟩
theorem var?_below {P : Program} {W W' : World} {n : String} {cs : Array Value} (h : W.var? P n = some cs) (hb : Below W.heap.size W W') : W'.var? P n = some cs := by
  unfold World.var? at h ⊢
  cases hg : P.globalNamed n with
  | none => rw [hg] at h; simp at h
  | some g =>
    rw [hg] at h
    simp only [Option.bind_some] at h ⊢
    cases hw : W.heap[g]? with
    | none => rw [hw] at h; simp at h
    | some o => rw [hw] at h; rw [hb.block g (Array.getElem?_eq_some_iff.1 hw).1, hw]; exact h

theorem trodAll_below {H : Type} {enc : TypeId × Value → H} {P : Program} (hl : laidOutB P = true) {W W' : World} (hb : Below W.heap.size W W') :
    ∀ {ts : List TypeId} {vs : List Value} {ds : List (DataW H)} {ps : List MemPlace}, (ts.all fun t => P.readableRec t && decide (t < P.types.size)) = true → DataW.TrodAll enc P W 0 (fun _ => true) true ts vs ds ps → (∀ x ∈ ps, x.block < W.heap.size) →
      DataW.TrodAll enc P W' 0 (fun b => decide (b < W.heap.size)) true ts vs ds ps
  | [], [], [], _, _, h, _ => h
  | t :: ts, v :: vs, d :: ds, _, hr, ⟨p, q, h1, h2, e⟩, hlt => by
    simp only [List.all_cons, Bool.and_eq_true, decide_eq_true_eq] at hr
    subst e
    exact ⟨p, q, Below.trod hl hr.1.1 hr.1.2 h1 hb (fun x hx => hlt x (List.mem_append_left _ hx)), trodAll_below hl hb hr.2 h2 (fun x hx => hlt x (List.mem_append_right _ hx)), rfl⟩
  | [], _ :: _, _, _, _, h, _ => h.elim
  | [], [], _ :: _, _, _, h, _ => h.elim
  | _ :: _, [], _, _, _, h, _ => h.elim
  | _ :: _, _ :: _, [], _, _, h, _ => h.elim

/-- WHAT A LAW'S ROW ASKS BEHIND THE CALL, where it names package-level variables. -/
theorem law_postV {H : Type} {enc : TypeId × Value → H} {P : Program} {f : Func} {s : ChangeSpec} {W W' : World} {args : Array Value} {ds gs : List (DataW H)} {before : List MemPlace} {tb : TypeId}
    (hl : laidOutB P = true) (hread : (f.params.toList.all fun t => P.readableRec t && decide (t < P.types.size)) = true) (hvr : varsRowed P s.vars = true)
    (hW : DataW.Whole enc P f.params.toList s.vars false W args.toList ds gs before) (hb : Below W.heap.size W W')
    (hres : f.resultTypes = #[tb]) (htb : P.underlying tb = some .bool)
    (hfn : (s.fn H (ds ++ gs)).results = [.lit (.bool true)] ∧ (s.fn H (ds ++ gs)).args = ds ∧ (s.fn H (ds ++ gs)).vars = gs) :
    s.post enc P f false true false false W args (.bool true) W' := by
  obtain ⟨h1, h2, h3⟩ := hfn
  have hlt : ∀ p ∈ before, p.block < W.heap.size := fun p hp => hW.lt p hp
  have hW2 := hW
  obtain ⟨p, q, hA, hV, rfl, _, _⟩ := hW2
  refine ⟨ds, gs, p ++ q, [], p, q, hW, ?_, ?_, ?_, hb.frame _, fun h => by cases h⟩
  · rw [h1, hres]
    exact trodAll_mk1 (shut_bool htb _)
  · rw [h2]
    exact trodAll_below hl hb hread hA (fun x hx => hlt x (List.mem_append_left _ hx))
  · rw [h3]
    exact Below.trodVars hl hb hvr hV
theorem gs_one {H : Type} {enc : TypeId × Value → H} {P : Program} {w : World} {spare : Nat → Bool} {n : String} {gs : List (DataW H)} {ps : List MemPlace} (h : DataW.TrodVars enc P w spare [n] gs ps) : ∃ g, gs = [g] := by
  cases gs with
  | nil => exact h.elim
  | cons d ds =>
    obtain ⟨_, _, _, _, _, q, _, _, _, _, hs, _⟩ := h
    obtain ⟨rfl, -⟩ := trodVars_none hs
    exact ⟨d, rfl⟩
theorem gs_two {H : Type} {enc : TypeId × Value → H} {P : Program} {w : World} {spare : Nat → Bool} {n m : String} {gs : List (DataW H)} {ps : List MemPlace} (h : DataW.TrodVars enc P w spare [n, m] gs ps) : ∃ g k, gs = [g, k] := by
  cases gs with
  | nil => exact h.elim
  | cons d ds =>
    obtain ⟨_, _, _, _, _, q, _, _, _, _, hs, _⟩ := h
    obtain ⟨k, rfl⟩ := gs_one hs
    exact ⟨d, k, rfl⟩
theorem gs_three {H : Type} {enc : TypeId × Value → H} {P : Program} {w : World} {spare : Nat → Bool} {n m o : String} {gs : List (DataW H)} {ps : List MemPlace} (h : DataW.TrodVars enc P w spare [n, m, o] gs ps) : ∃ g k l, gs = [g, k, l] := by
  cases gs with
  | nil => exact h.elim
  | cons d ds =>
    obtain ⟨_, _, _, _, _, q, _, _, _, _, hs, _⟩ := h
    obtain ⟨k, l, rfl⟩ := gs_two hs
    exact ⟨d, k, l, rfl⟩

/-- WHAT A LAW'S ROW ASKS BEHIND THE CALL. -/
theorem law_post {H : Type} {enc : TypeId × Value → H} {P : Program} {f : Func} {s : ChangeSpec} {W W' : World} {args : Array Value} {ds gs : List (DataW H)} {before : List MemPlace} {tb : TypeId}
    (hl : laidOutB P = true) (hread : (f.params.toList.all fun t => P.readableRec t && decide (t < P.types.size)) = true)
    (hW : DataW.Whole enc P f.params.toList s.vars false W args.toList ds gs before) (hv : s.vars = []) (hb : Below W.heap.size W W')
    (hres : f.resultTypes = #[tb]) (htb : P.underlying tb = some .bool)
    (hfn : (s.fn H (ds ++ gs)).results = [.lit (.bool true)] ∧ (s.fn H (ds ++ gs)).args = ds ∧ (s.fn H (ds ++ gs)).vars = []) :
    s.post enc P f false true false false W args (.bool true) W' := by
  obtain ⟨h1, h2, h3⟩ := hfn
  have hlt : ∀ p ∈ before, p.block < W.heap.size := fun p hp => hW.lt p hp
  have hW2 := hW
  obtain ⟨p, q, hA, hV, rfl, _, _⟩ := hW2
  rw [hv] at hV
  obtain ⟨rfl, rfl⟩ := trodVars_none hV
  refine ⟨ds, [], p ++ [], [], p, [], hW, ?_, ?_, ?_, hb.frame _, fun h => by cases h⟩
  · rw [h1, hres]
    exact trodAll_mk1 (shut_bool htb _)
  · rw [h2]
    exact trodAll_below hl hb hread hA (fun x hx => hlt x (by simpa using hx))
  · rw [hv, h3]
    rfl
end Go.Proofs.YtofikgjoiidhmaaGreatDoor

namespace Go.Proofs.YtofikgjoiidhmaaGreatDoor
theorem own : ownKnob Tryz.prog.godebug = none := by kernel_rfl
theorem laidOut : laidOutB Tryz.prog = true := by kernel_rfl
end Go.Proofs.YtofikgjoiidhmaaGreatDoor

namespace Go.Proofs.YtofikgjoiidhmaaGreatDoor
theorem u8_le (c : UInt8) : c.toNat ≤ 255 := by have := c.toNat_lt; omega
theorem u8_ne {a b : UInt8} (h : a ≠ b) : ((a.toNat : Int) == (b.toNat : Int)) = false := by
  have h2 : a.toNat ≠ b.toNat := fun e => h (UInt8.toNat.inj e)
  simp
  omega
theorem u8_eq {a b : UInt8} (h : a = b) : ((a.toNat : Int) == (b.toNat : Int)) = true := by simp [h]
end Go.Proofs.YtofikgjoiidhmaaGreatDoor

namespace Go.Proofs.YtofikgjoiidhmaaGreatDoor
open Go.RowKit

/-- Block g is just these cells of one element type, none frozen. -/
def Blk (w : World) (g : Nat) (t : TypeId) (cs : Array Value) : Prop := w.heap[g]? = some (.cells cs t (0, 0))
section
variable {w w' : World} {g : Nat} {t : TypeId} {cs : Array Value}
theorem Blk.lt (h : Blk w g t cs) : g < w.heap.size := by
  rcases Nat.lt_or_ge g w.heap.size with hlt | hge
  · exact hlt
  · unfold Blk at h; rw [Array.getElem?_eq_none hge] at h; cases h
theorem Blk.cell (h : Blk w g t cs) (i : Nat) : w.cell? ⟨g, i, none⟩ = cs[i]? := cell_of_row w g i cs t (0, 0) h
theorem Blk.frozen (h : Blk w g t cs) (i : Nat) : w.frozen? ⟨g, i, none⟩ = false := by
  unfold Blk at h
  simp [World.frozen?, h]
theorem Blk.new (w : World) (t : TypeId) (cs : Array Value) : Blk (w.alloc (.cells cs t)) w.heap.size t cs := heap_alloc_new w _
theorem Blk.drew (h : Blk w g t cs) : Blk w.drew g t cs := h
theorem Blk.alloc (h : Blk w g t cs) (o : Obj) : Blk (w.alloc o) g t cs := (Below.heap_alloc w o g h.lt).trans h
theorem Blk.put (h : Blk w g t cs) (i : Nat) (u : Value) : Blk (w.setCell ⟨g, i, none⟩ u) g t (cs.setIfInBounds i u) := by
  unfold Blk at h ⊢
  simp [World.setCell, Array.getElem?_modify, h]
theorem Blk.far (h : Blk w g t cs) {p : Addr} (hp : g ≠ p.block) (u : Value) : Blk (w.setCell p u) g t cs := (Below.heap_setCell w p u g hp).trans h
theorem Blk.below {B : Nat} (h : Blk w g t cs) (hb : Below B w w') (hg : g < B) : Blk w' g t cs := (hb.block g hg).trans h
theorem Blk.grown {row : Option Nat} (h : Blk w g t cs) (hb : w.grownBy w' row) (hg : some g ≠ row) : Blk w' g t cs := (hb.block g h.lt hg).trans h
end
theorem only_drewN {a w : World} {row : Option Nat} (h : a.grownBy w row) (n : Nat) : a.grownBy (w.drewN n) row := ⟨h.os, h.tape, h.output, h.size, h.block⟩
theorem only_drew {a w : World} {row : Option Nat} (h : a.grownBy w row) : a.grownBy w.drew row := ⟨h.os, h.tape, h.output, h.size, h.block⟩
theorem only_alloc {a w : World} {row : Option Nat} (h : a.grownBy w row) (o : Obj) : a.grownBy (w.alloc o) row :=
  ⟨h.os, h.tape, h.output, Nat.le_trans h.size (by simp), fun i hi hne => (Below.heap_alloc w o i (Nat.lt_of_lt_of_le hi h.size)).trans (h.block i hi hne)⟩
theorem only_setCell {a w : World} {g : Nat} (h : a.grownBy w (some g)) {p : Addr} (hp : p.block = g ∨ a.heap.size ≤ p.block) (u : Value) : a.grownBy (w.setCell p u) (some g) :=
  ⟨h.os, h.tape, h.output, by simpa [World.setCell] using h.size, fun i hi hne => (Below.heap_setCell w p u i (by
    rintro rfl
    rcases hp with hp | hp
    · exact hne (by rw [hp])
    · omega)).trans (h.block i hi hne)⟩
theorem only_of_below {a w : World} (h : Below a.heap.size a w) (row : Option Nat) : a.grownBy w row := ⟨h.os, h.tape, h.output, h.size, fun i hi _ => h.block i hi⟩
theorem only_trans {a b c : World} {row : Option Nat} (h : a.grownBy b row) (k : b.grownBy c row) : a.grownBy c row :=
  ⟨k.os.trans h.os, k.tape.trans h.tape, k.output.trans h.output, Nat.le_trans h.size k.size, fun i hi hn => (k.block i (Nat.lt_of_lt_of_le hi h.size) hn).trans (h.block i hi hn)⟩
theorem below_of_only {a b : World} {g B : Nat} (h : a.grownBy b (some g)) (hB : B ≤ a.heap.size) (hg : B ≤ g) : Below B a b :=
  ⟨h.os, h.tape, h.output, h.size, fun k hk => h.block k (by omega) (fun e => by injection e with e; omega)⟩
end Go.Proofs.YtofikgjoiidhmaaGreatDoor

namespace Go.Proofs.YtofikgjoiidhmaaGreatDoor
open Go.RowKit Go

def u32v (n : Nat) : Value := .int .u32 (n : Int)
/-- A list of numbers that can be read. -/
def RdN (w : World) (v : Value) (xs : List Nat) : Prop :=
  ∃ (A : Option Addr) (cap : Nat), v = .slice A xs.length cap ∧ xs.length ≤ 4611686018427387904 ∧ ∀ i (h : i < xs.length), ∃ a, A = some a ∧ a.block < w.heap.size ∧ w.cell? (a.add i) = some (u32v xs[i])
theorem addr_addb (a : Addr) (n : Nat) : (a.add n).block = a.block := by unfold Addr.add; split <;> rfl
theorem addr_lit (b o n : Nat) : Addr.add ⟨b, o, none⟩ n = ⟨b, o + n, none⟩ := by unfold Addr.add; split <;> simp_all
theorem RdN.keep {w w' : World} {v : Value} {xs : List Nat} (h : RdN w v xs) (hs : w.heap.size ≤ w'.heap.size) (hk : ∀ p : Addr, p.block < w.heap.size → (∃ a, v = .slice (some a) xs.length (match v with | .slice _ _ c => c | _ => 0) ∧ p.block = a.block) → w'.cell? p = w.cell? p) : RdN w' v xs := by
  obtain ⟨A, cap, rfl, hl, hc⟩ := h
  refine ⟨A, cap, rfl, hl, fun i hi => ?_⟩
  obtain ⟨a, rfl, e2, e3⟩ := hc i hi
  exact ⟨a, rfl, by omega, (hk _ (by rw [addr_addb]; exact e2) ⟨a, rfl, addr_addb _ _⟩).trans e3⟩
theorem RdN.below {w w' : World} {v : Value} {xs : List Nat} (h : RdN w v xs) (hb : Below w.heap.size w w') : RdN w' v xs := h.keep hb.size fun _ hp _ => hb.cell hp
theorem RdN.of_own {w : World} {base : Nat} {e : TypeId} {v : Value} {xs : List Nat} (h : w.ownsRow base e 1 v xs.length (xs.map u32v)) (hl : xs.length ≤ 4611686018427387904) : RdN w v xs := by
  rcases h.2 with ⟨rfl, h0⟩ | ⟨g, cap, cur, rfl, hb, hg, hn, hm, hsz, ht⟩
  · refine ⟨none, 0, by rw [h0], hl, fun i hi => by omega⟩
  · refine ⟨_, cap, rfl, hl, fun i hi => ⟨⟨g, 0, none⟩, rfl, (Array.getElem?_eq_some_iff.1 hg).1, ?_⟩⟩
    rw [addr_lit, Nat.zero_add, cell_of_row w g i cur e (0, 0) hg]
    have h1 := congrArg (·[i]?) ht
    simpa [List.getElem?_take, hi] using h1
theorem own_lt {W : World} {base : Nat} {e : TypeId} {size : Nat} {v : Value} {n : Nat} {xs : List Value} (h : W.ownsRow base e size v n xs) : ∀ k, v.ownBlock = some k → base ≤ k := fun k hk => by
  rcases h.2 with ⟨rfl, _⟩ | ⟨g, cap, cur, rfl, h1, _, _⟩
  · simp [Value.ownBlock] at hk
  · obtain rfl : g = k := by simpa [Value.ownBlock] using hk
    exact h1
theorem own_empty (w : World) (e : TypeId) : (w.alloc (.cells #[] e)).ownsRow w.heap.size e 1 (.slice (some ⟨w.heap.size, 0, none⟩) 0 0) 0 [] :=
  ⟨rfl, .inr ⟨w.heap.size, 0, #[], rfl, Nat.le_refl _, heap_alloc_new w _, Nat.le_refl _, Nat.zero_le _, rfl, rfl⟩⟩
/-- A new list of numbers. -/
def NewN (w : World) (xs : List Nat) (e : Ending) (w' : World) : Prop := ∃ v, e = .returned v ∧ w'.ownsRow w.heap.size 52 1 v xs.length (xs.map u32v) ∧ Below w.heap.size w w'
theorem u32_ne {a b : Nat} (h : a ≠ b) : ((a : Int) == (b : Int)) = false := by simp; omega
theorem u32_bne {a b : Nat} (h : a ≠ b) : ((a : Int) != (b : Int)) = true := by simp; omega
theorem u32_beq (a : Nat) : ((a : Int) != (a : Int)) = false := by simp

set_option maxHeartbeats 1000000 in
theorem samecells_any (a b : Value) (xs ys : List Nat) (w : World) (ha : RdN w a xs) (hb : RdN w b ys) :
    Calls Tryz.prog 62 #[a, b] w fun e w' => e = .returned (.bool (decide (xs = ys))) ∧ ∃ d, w' = w.drewN d := by
  obtain ⟨A, ca, rfl, hla, hca⟩ := ha
  obtain ⟨B, cb, rfl, hlb, hcb⟩ := hb
  have HA := Lib.hid hca
  have HB := Lib.hid hcb
  clear hca hcb
  by_cases hl : xs.length = ys.length
  · have hl' : ((xs.length : Int) != (ys.length : Int)) = false := by simp [hl]
    have HL := Lib.hid hl
    clear hl
    go_enter Tryz.func62, Tryz.ntmps62
    go_wp2
    go_loopw [5] (fun vi wr => ∃ i d : Nat, vi = .int .i64 i ∧ i ≤ xs.length ∧ Hid (wr = w.drewN d) ∧ Hid (∀ j (h : j < xs.length), j < i → ys[j]? = some xs[j])) (fun vi _ => xs.length - (intOf vi).toNat)
    case atStart => exact ⟨0, 0, rfl, by omega, by rw [World.drewN_zero]; rfl, fun j _ h => by omega⟩
    case round =>
      obtain ⟨i, d, rfl, hi, HW, HE⟩ := hrel
      by_cases hp : i < xs.length
      · obtain ⟨ga, rfl, -, ha⟩ := HA.out i hp
        obtain ⟨gb, rfl, -, hb⟩ := HB.out i (by have := HL.out; omega)
        have hcA : wr.cell? (ga.add i) = some (.int .u32 (xs[i] : Int)) := by rw [HW.out]; exact ha
        have hcB : wr.cell? (gb.add i) = some (.int .u32 ((ys[i]'(by have := HL.out; omega) : Nat) : Int)) := by rw [HW.out]; exact hb
        have i1 : (0 : Int) ≤ (i : Int) := by omega
        have i2 : (i : Int) < (xs.length : Int) := by omega
        have i3 : (i : Int) < (ys.length : Int) := by have := HL.out; omega
        clear ha hb
        by_cases he : xs[i] = ys[i]'(by have := HL.out; omega)
        · have HE2 : Hid (∀ j (h : j < xs.length), j < i + 1 → ys[j]? = some xs[j]) := Lib.hid fun j hj h2 => by
            rcases Nat.lt_or_ge j i with h3 | h3
            · exact HE.out j hj h3
            · obtain rfl : j = i := by omega
              rw [List.getElem?_eq_getElem (by omega), he]
          rw [← he] at hcB
          clear he
          go_wp2
          go_quiet (fail)
          go_wp2
          go_roundw
          case rel => exact ⟨i + 1, _, by go_num, by omega, by rw [HW.out, World.drewN_drewN]; rfl, HE2.out⟩
          case measure => simp [intOf]; omega
        · have hne := u32_bne he
          have hd : decide (xs = ys) = false := decide_eq_false fun e => he (by simp [e])
          have HD := Lib.hid hd
          clear he hd
          go_wp2
          go_quiet (fail)
          go_wp2
          go_ret
          exact ⟨by rw [HD.out]; rfl, _, by rw [HW.out, World.drewN_drewN]⟩
      · have hd : decide (xs = ys) = true := decide_eq_true (List.ext_getElem HL.out fun j h1 h2 => by
          have := HE.out j h1 (by omega)
          rw [List.getElem?_eq_getElem h2] at this
          exact (Option.some.inj this).symm)
        have HD := Lib.hid hd
        clear hd
        go_wp2
        go_ret
        exact ⟨by rw [HD.out]; rfl, d, HW.out⟩
  · have hl' : ((xs.length : Int) != (ys.length : Int)) = true := by simp; omega
    have e : decide (xs = ys) = false := by simpa using fun e => hl (by rw [e])
    rw [e]
    clear hl e
    go_enter Tryz.func62, Tryz.ntmps62
    go_wp2
    go_ret
    exact ⟨rfl, 0, by rw [World.drewN_zero]⟩

/-- n marks, from k on. -/
def marksN (k n : Nat) : List Nat := (List.range n).map (k + ·)
theorem marksN_len (k n : Nat) : (marksN k n).length = n := by simp [marksN]
theorem marksN_succ (k i : Nat) : marksN k (i + 1) = marksN k i ++ [k + i] := by unfold marksN; rw [List.range_succ]; simp
theorem marksN_set {xs : List Nat} {k i : Nat} (h : i < xs.length) : ((marksN k i ++ xs.drop i).map u32v).set i (.int .u32 ((k : Int) + (i : Int))) = (marksN k (i + 1) ++ xs.drop (i + 1)).map u32v := by
  have e : Value.int .u32 ((k : Int) + (i : Int)) = u32v (k + i) := by unfold u32v; push_cast; rfl
  rw [e, marksN_succ, List.map_append, List.map_append, List.set_append_right _ _ (by simp [marksN_len]), List.length_map, marksN_len, Nat.sub_self, List.drop_eq_getElem_cons h, List.map_cons, List.set_cons_zero]
  simp
/-- Where marking stands: block g holds i marks, then what it held. -/
structure MarkedN (W wr : World) (g : Nat) (n : Nat) (xs : List Nat) (k i : Nat) (cap : Nat) (cur : Array Value) : Prop where
  blk : Blk wr g 52 cur
  size : cur.size = cap
  take : cur.toList.take n = (marksN k i ++ xs.drop i).map u32v
  grown : W.grownBy wr (some g)
theorem MarkedN.step {W wr : World} {g : Nat} {xs : List Nat} {k i cap : Nat} {cur : Array Value} (h : MarkedN W wr g xs.length xs k i cap cur) (hi : i < xs.length) :
    MarkedN W (wr.setCell ⟨g, i, none⟩ (.int .u32 ((k : Int) + (i : Int)))) g xs.length xs k (i + 1) cap (cur.setIfInBounds i (.int .u32 ((k : Int) + (i : Int)))) := by
  refine ⟨h.blk.put _ _, by simpa using h.size, ?_, only_setCell h.grown (.inl rfl) _⟩
  rw [Array.toList_setIfInBounds, List.take_set, h.take, marksN_set hi]
theorem MarkedN.cell {W wr : World} {g n : Nat} {xs : List Nat} {k i cap : Nat} {cur : Array Value} (h : MarkedN W wr g n xs k i cap cur) (hi : i < cap) : ∃ u, wr.cell? ⟨g, i, none⟩ = some u ∧ wr.frozen? ⟨g, i, none⟩ = false := by
  have hs := h.size
  exact ⟨cur[i]'(by omega), by rw [h.blk.cell, Array.getElem?_eq_getElem (by omega)], h.blk.frozen i⟩

end Go.Proofs.YtofikgjoiidhmaaGreatDoor

namespace Go.Proofs.YtofikgjoiidhmaaGreatDoor

def lets : ByteArray := ⟨#[32, 114, 116, 111, 101, 97, 110, 105, 115, 109, 99, 121, 108, 103, 102, 119, 100, 118, 112, 98, 104, 120, 117, 113, 48, 49, 50, 51, 52, 53, 54, 55, 56, 57, 106, 45, 107, 46, 122, 47, 59, 39, 33, 43, 64, 42, 44, 63]⟩
theorem lets_size : lets.size = 48 := rfl
/-- The byte of a letter; 0 where there is none. -/
def letAt (k : Int) : Int := if 0 ≤ k ∧ k ≤ 47 then ((lets.data.toList.getD k.toNat 0).toNat : Int) else 0
/-- The number of a byte's letter; -1 where it is none. -/
def letOf (c : UInt8) : Int := Lib.indexByte lets.data.toList c
def widthOf (k : Int) : Int := if k < 0 then 0 else if k < 8 then 4 else if k < 16 then 5 else if k < 48 then 7 else 0
def bitsOf (k : Int) : Int := if k < 0 then 0 else if k < 8 then k else if k < 16 then k + 8 else if k < 48 then k + 80 else 0
theorem widthOf_nat {k : Nat} (h : k < 48) : ∃ d : Nat, widthOf (k : Int) = (d : Int) ∧ 4 ≤ d ∧ d ≤ 7 := by
  unfold widthOf
  by_cases h0 : k < 8
  · exact ⟨4, by rw [if_neg (by omega), if_pos (by omega)]; rfl, by omega, by omega⟩
  · by_cases h1 : k < 16
    · exact ⟨5, by rw [if_neg (by omega), if_neg (by omega), if_pos (by omega)]; rfl, by omega, by omega⟩
    · exact ⟨7, by rw [if_neg (by omega), if_neg (by omega), if_neg (by omega), if_pos (by omega)]; rfl, by omega, by omega⟩
theorem letAt_none {k : Int} (h : ¬ (0 ≤ k ∧ k ≤ 47)) : letAt k = 0 := by unfold letAt; rw [if_neg h]
theorem letAt_some {k : Nat} (h : k < 48) : letAt k = (lets[k]'(by rw [lets_size]; exact h)).toNat := by
  unfold letAt
  rw [if_pos (by omega)]
  have e : ((k : Int)).toNat = k := by omega
  rw [e, List.getD_eq_getElem?_getD, List.getElem?_eq_getElem (by show k < 48; exact h)]
  rfl
theorem letOf_range (c : UInt8) : -1 ≤ letOf c ∧ letOf c ≤ 47 := by
  have h := Lib.indexByte_ge lets.data.toList c
  refine ⟨h, ?_⟩
  rcases Int.lt_or_le (letOf c) 0 with h0 | h0
  · omega
  · obtain ⟨o, ho⟩ : ∃ o : Nat, letOf c = o := ⟨(letOf c).toNat, by omega⟩
    have h1 := (Lib.indexByte_some (show Lib.indexByte lets.data.toList c = o from ho)).1
    have h2 : o < lets.data.toList.length := (List.getElem?_eq_some_iff.1 h1).1
    have h3 : lets.data.toList.length = 48 := rfl
    omega
theorem letOf_first {c : UInt8} {k : Nat} (h : k < 48) (he : lets[k]'(by rw [lets_size]; exact h) = c) (hn : ∀ j (hj : j < k), lets[j]'(by rw [lets_size]; omega) ≠ c) : letOf c = k := by
  have hk : lets.data.toList[k]? = some c := by
    rw [List.getElem?_eq_getElem (by show k < 48; exact h)]
    exact congrArg some he
  rcases Int.lt_or_le (letOf c) 0 with h0 | h0
  · have : Lib.indexByte lets.data.toList c = -1 := by have := (letOf_range c).1; unfold letOf at *; omega
    exact absurd hk (Lib.indexByte_none this k)
  · obtain ⟨o, ho⟩ : ∃ o : Nat, letOf c = o := ⟨(letOf c).toNat, by omega⟩
    obtain ⟨h1, h2⟩ := Lib.indexByte_some (show Lib.indexByte lets.data.toList c = o from ho)
    have h3 : o < lets.data.toList.length := (List.getElem?_eq_some_iff.1 h1).1
    rw [ho]
    rcases Nat.lt_trichotomy o k with h4 | h4 | h4
    · exfalso
      rw [List.getElem?_eq_getElem h3] at h1
      exact hn o h4 (Option.some.inj h1)
    · rw [h4]
    · exact absurd hk (h2 k h4)
theorem letOf_none {c : UInt8} (hn : ∀ j (hj : j < 48), lets[j]'(by rw [lets_size]; exact hj) ≠ c) : letOf c = -1 := by
  rcases Int.lt_or_le (letOf c) 0 with h0 | h0
  · have := (letOf_range c).1; omega
  · obtain ⟨o, ho⟩ : ∃ o : Nat, letOf c = o := ⟨(letOf c).toNat, by omega⟩
    obtain ⟨h1, h2⟩ := Lib.indexByte_some (show Lib.indexByte lets.data.toList c = o from ho)
    have h3 : o < lets.data.toList.length := (List.getElem?_eq_some_iff.1 h1).1
    rw [List.getElem?_eq_getElem h3] at h1
    exact absurd (Option.some.inj h1) (hn o h3)
theorem letOf_zero {c : UInt8} (h : letOf c = 0) : c = 32 := by
  have h1 := (Lib.indexByte_some (show Lib.indexByte lets.data.toList c = ((0 : Nat) : Int) from h)).1
  exact (Option.some.inj h1).symm
theorem letOf_blank : letOf 32 = 0 := by decide
/-- Whether a byte is a name's. -/
def nameByte (c : UInt8) : Bool := decide (1 ≤ letOf c)
/-- Whether a text is a name. -/
def nameOk (s : ByteArray) : Bool := decide (1 ≤ s.size ∧ s.size ≤ 24 ∧ ∀ (i : Nat) (h : i < s.size), nameByte s[i] = true)
theorem nameOk_yes {s : ByteArray} (h0 : 1 ≤ s.size) (h1 : s.size ≤ 24) (h : ∀ (i : Nat) (h : i < s.size), nameByte s[i] = true) : nameOk s = true := decide_eq_true ⟨h0, h1, h⟩
theorem nameOk_no {s : ByteArray} {i : Nat} (hi : i < s.size) (h : nameByte s[i] = false) : nameOk s = false := decide_eq_false fun ⟨_, _, h2⟩ => by rw [h2 i hi] at h; cases h
theorem nameOk_size {s : ByteArray} (h : ¬ (1 ≤ s.size ∧ s.size ≤ 24)) : nameOk s = false := decide_eq_false fun ⟨h1, h2, _⟩ => h ⟨h1, h2⟩
end Go.Proofs.YtofikgjoiidhmaaGreatDoor

namespace Go.Proofs.YtofikgjoiidhmaaGreatDoor
open Go.RowKit Go

theorem bitsand_i64 (x y : Nat) (hx : x < 9223372036854775808) (hy : y < 9223372036854775808) : bits .and .i64 (x : Int) (y : Int) = ((x &&& y : Nat) : Int) := by
  have h : bits .and .i64 (x : Int) (y : Int) = IntKind.i64.wrap ((BitVec.ofInt 64 (x : Int) &&& BitVec.ofInt 64 (y : Int)).toNat : Int) := rfl
  have hle : x &&& y ≤ x := Nat.and_le_left
  rw [h, BitVec.toNat_and, BitVec.ofInt_natCast, BitVec.ofInt_natCast, BitVec.toNat_ofNat, BitVec.toNat_ofNat, Nat.mod_eq_of_lt (by omega), Nat.mod_eq_of_lt (by omega), IntKind.wrap_i64]
  omega
theorem bitsand_u32 (x y : Nat) (hx : x < 4294967296) (hy : y < 4294967296) : bits .and .u32 (x : Int) (y : Int) = ((x &&& y : Nat) : Int) := by
  have h : bits .and .u32 (x : Int) (y : Int) = IntKind.u32.wrap ((BitVec.ofInt 32 (x : Int) &&& BitVec.ofInt 32 (y : Int)).toNat : Int) := rfl
  have hle : x &&& y ≤ x := Nat.and_le_left
  rw [h, BitVec.toNat_and, BitVec.ofInt_natCast, BitVec.ofInt_natCast, BitVec.toNat_ofNat, BitVec.toNat_ofNat, Nat.mod_eq_of_lt (by omega), Nat.mod_eq_of_lt (by omega), IntKind.wrap_u32]
  omega
theorem bitsor_u32 (x y : Nat) (hx : x < 4294967296) (hy : y < 4294967296) : bits .or .u32 (x : Int) (y : Int) = ((x ||| y : Nat) : Int) := by
  have h : bits .or .u32 (x : Int) (y : Int) = IntKind.u32.wrap ((BitVec.ofInt 32 (x : Int) ||| BitVec.ofInt 32 (y : Int)).toNat : Int) := rfl
  have hle : x ||| y < 2 ^ 32 := Nat.or_lt_two_pow (by omega) (by omega)
  rw [h, BitVec.toNat_or, BitVec.ofInt_natCast, BitVec.ofInt_natCast, BitVec.toNat_ofNat, BitVec.toNat_ofNat, Nat.mod_eq_of_lt (by omega), Nat.mod_eq_of_lt (by omega), IntKind.wrap_u32]
  omega
/-- A mask of n ones. -/
theorem mask_i64 (x n : Nat) (hx : x < 9223372036854775808) (hn : n ≤ 62) : bits .and .i64 (x : Int) ((2 ^ n - 1 : Nat) : Int) = ((x % 2 ^ n : Nat) : Int) := by
  have h2 : 2 ^ n ≤ 2 ^ 62 := Nat.pow_le_pow_right (by decide) hn
  rw [bitsand_i64 x _ hx (by omega), Nat.and_two_pow_sub_one_eq_mod]
theorem mask_u32 (x n : Nat) (hx : x < 4294967296) (hn : n ≤ 32) : bits .and .u32 (x : Int) ((2 ^ n - 1 : Nat) : Int) = ((x % 2 ^ n : Nat) : Int) := by
  have h2 : 2 ^ n ≤ 2 ^ 32 := Nat.pow_le_pow_right (by decide) hn
  rw [bitsand_u32 x _ hx (by omega), Nat.and_two_pow_sub_one_eq_mod]
end Go.Proofs.YtofikgjoiidhmaaGreatDoor

namespace Go.Proofs.YtofikgjoiidhmaaGreatDoor
open Go.RowKit Go

/-- Whether the code of letter k stands first in the n lowest bits of x. -/
def codeAt (x n k : Nat) : Bool := decide ((widthOf k).toNat ≤ n ∧ (((x % 2 ^ n) / 2 ^ (n - (widthOf k).toNat) : Nat) : Int) = bitsOf k)
/-- The letter whose code stands first in the n lowest bits of x, and how many bits it has. -/
def decodeN (x n : Nat) : Int × Int := match (List.range 48).find? (codeAt x n) with
  | some k => ((k : Int), widthOf k)
  | none => (-1, 0)
def decode (x : Nat) (n : Int) : Int × Int := if 1 ≤ n ∧ n ≤ 32 then decodeN x n.toNat else (-1, 0)
theorem codeAt_iff {x n k d : Nat} {b : Int} (hd : widthOf (k : Int) = (d : Int)) (hb : bitsOf (k : Int) = b) : codeAt x n k = decide (d ≤ n ∧ ((x % 2 ^ n / 2 ^ (n - d) : Nat) : Int) = b) := by
  unfold codeAt
  rw [hd, hb]
  rfl
theorem codeAt_true {x n k d : Nat} {b t : Int} (hd : widthOf (k : Int) = (d : Int)) (hb : bitsOf (k : Int) = b) (h1 : d ≤ n) (ht : t = ((x % 2 ^ n / 2 ^ (n - d) : Nat) : Int)) (h2 : t = b) : codeAt x n k = true := by
  rw [codeAt_iff hd hb, ← ht]
  exact decide_eq_true ⟨h1, h2⟩
theorem codeAt_false {x n k d : Nat} {b t : Int} (hd : widthOf (k : Int) = (d : Int)) (hb : bitsOf (k : Int) = b) (ht : t = ((x % 2 ^ n / 2 ^ (n - d) : Nat) : Int)) (h2 : t ≠ b) : codeAt x n k = false := by
  rw [codeAt_iff hd hb, ← ht]
  exact decide_eq_false fun h => h2 h.2
theorem codeAt_short {x n k d : Nat} (hd : widthOf (k : Int) = (d : Int)) (h : ¬ d ≤ n) : codeAt x n k = false := by
  rw [codeAt_iff hd rfl]
  exact decide_eq_false fun h2 => h h2.1
theorem find_first {p : Nat → Bool} {m k : Nat} (hk : k < m) (h : p k = true) (hn : ∀ j, j < k → p j = false) : (List.range m).find? p = some k := by
  rw [List.find?_eq_some_iff_getElem]
  refine ⟨h, k, by simpa using hk, by simp, fun j hj => ?_⟩
  have h1 := hn j hj
  simp [h1]
theorem find_none {p : Nat → Bool} {m : Nat} (hn : ∀ j, j < m → p j = false) : (List.range m).find? p = none := by
  rw [List.find?_eq_none]
  intro x hx
  have h1 := hn x (by simpa using hx)
  simp [h1]
theorem decodeN_some {x n k : Nat} (hk : k < 48) (h : codeAt x n k = true) (hn : ∀ j, j < k → codeAt x n j = false) : decodeN x n = ((k : Int), widthOf k) := by
  unfold decodeN
  rw [find_first hk h hn]
theorem decodeN_none {x n : Nat} (hn : ∀ j, j < 48 → codeAt x n j = false) : decodeN x n = (-1, 0) := by
  unfold decodeN
  rw [find_none hn]
/-- The highest bits of a text that was pushed to the top are its first bits. -/
theorem top_bits (x n w : Nat) (hn : n ≤ 32) (hw : w ≤ n) : (x * 2 ^ (32 - n)) % 4294967296 / 2 ^ (32 - w) = (x % 2 ^ n) / 2 ^ (n - w) := by
  have e1 : (4294967296 : Nat) = 2 ^ n * 2 ^ (32 - n) := by
    rw [← Nat.pow_add, show n + (32 - n) = 32 by omega]
  have e2 : (2 : Nat) ^ (32 - w) = 2 ^ (32 - n) * 2 ^ (n - w) := by rw [← Nat.pow_add, show 32 - n + (n - w) = 32 - w by omega]
  rw [e1, Nat.mul_mod_mul_right, e2, ← Nat.div_div_eq_div_mul, Nat.mul_div_cancel _ (Nat.two_pow_pos _)]
theorem cast_top (x a b C : Nat) : (x : Int) * 2 ^ a % (C : Int) / 2 ^ b = ((x * 2 ^ a % C / 2 ^ b : Nat) : Int) := by
  push_cast
  rfl
theorem top_int (x n w : Nat) (hn : n ≤ 32) (hw : w ≤ n) : (x : Int) * 2 ^ (32 - n) % 4294967296 / 2 ^ (32 - w) = ((x % 2 ^ n / 2 ^ (n - w) : Nat) : Int) := by
  rw [← top_bits x n w hn hw]
  exact cast_top x (32 - n) (32 - w) 4294967296
theorem wrap_mask (n : Nat) (hn : n ≤ 62) : wrap64 (wrap64 ((2 : Int) ^ n) - 1) = ((2 ^ n - 1 : Nat) : Int) := by
  have h2 : 2 ^ n ≤ 2 ^ 62 := Nat.pow_le_pow_right (by decide) hn
  have h1 : 1 ≤ 2 ^ n := Nat.one_le_two_pow
  have e : ((2 : Int) ^ n) = ((2 ^ n : Nat) : Int) := by push_cast; rfl
  rw [e]
  unfold wrap64
  omega
theorem mask_int (x n w : Nat) (hx : x < 4294967296) (hn : n ≤ 32) : bits .and .i64 (x : Int) (wrap64 (wrap64 ((2 : Int) ^ n) - 1)) / 2 ^ (n - w) = ((x % 2 ^ n / 2 ^ (n - w) : Nat) : Int) := by
  rw [wrap_mask n (by omega), mask_i64 x n (by omega) (by omega)]
  push_cast
  rfl
end Go.Proofs.YtofikgjoiidhmaaGreatDoor

namespace Go.Proofs.YtofikgjoiidhmaaGreatDoor
open Go.RowKit Go

theorem back_all : ∀ k : Nat, k < 48 → letOf (UInt8.ofNat (letAt (k : Int)).toNat) = (k : Int) ∧ 0 ≤ letAt (k : Int) ∧ letAt (k : Int) ≤ 255 := by decide +kernel
theorem letAt_back {k : Nat} (h : k < 48) : ∃ c : UInt8, letAt (k : Int) = (c.toNat : Int) ∧ letOf c = (k : Int) := by
  obtain ⟨h1, h2, h3⟩ := back_all k h
  refine ⟨_, ?_, h1⟩
  rw [UInt8.toNat_ofNat_of_lt' (by show _ < 256; omega)]
  omega
def wN (k : Nat) : Nat := (widthOf (k : Int)).toNat
def bN (k : Nat) : Nat := (bitsOf (k : Int)).toNat
theorem code_apart : ∀ k : Nat, k < 48 → bN k < 2 ^ wN k ∧ ((bN k : Nat) : Int) = bitsOf (k : Int) ∧ ∀ j : Nat, j < k → wN j ≤ wN k ∧ ((bN k / 2 ^ (wN k - wN j) : Nat) : Int) ≠ bitsOf (j : Int) := by decide +kernel
theorem code_front (k rest r : Nat) (hk : k < 48) (hr : r < 2 ^ rest) : decodeN (bN k * 2 ^ rest + r) (wN k + rest) = ((k : Int), widthOf k) := by
  obtain ⟨h1, h2, h3⟩ := code_apart k hk
  have hlt : bN k * 2 ^ rest + r < 2 ^ (wN k + rest) := by
    rw [Nat.pow_add]
    calc bN k * 2 ^ rest + r < bN k * 2 ^ rest + 2 ^ rest := by omega
      _ = (bN k + 1) * 2 ^ rest := by rw [Nat.add_mul, Nat.one_mul]
      _ ≤ 2 ^ wN k * 2 ^ rest := Nat.mul_le_mul_right _ h1
  have hq : (bN k * 2 ^ rest + r) / 2 ^ rest = bN k := by
    rw [Nat.mul_comm, Nat.mul_add_div (Nat.two_pow_pos _), Nat.div_eq_of_lt hr]
    rfl
  refine decodeN_some hk ?_ fun j hj => ?_
  · unfold codeAt
    rw [Nat.mod_eq_of_lt hlt]
    refine decide_eq_true ⟨Nat.le_add_right _ _, ?_⟩
    rw [show wN k + rest - (widthOf (k : Int)).toNat = rest from Nat.add_sub_cancel_left _ _, hq, h2]
  · obtain ⟨h4, h5⟩ := h3 j hj
    unfold codeAt
    rw [Nat.mod_eq_of_lt hlt]
    refine decide_eq_false fun ⟨_, h6⟩ => h5 ?_
    rw [← h6, show wN k + rest - (widthOf (j : Int)).toNat = rest + (wN k - wN j) by show wN k + rest - wN j = _; omega, Nat.pow_add, ← Nat.div_div_eq_div_mul, hq]
theorem or_front (b rest r : Nat) (hr : r < 2 ^ rest) : (b * 2 ^ rest) ||| r = b * 2 ^ rest + r := by
  rw [Nat.mul_comm, ← Nat.two_pow_add_eq_or_of_lt hr]
theorem front_bits (b m rest : Nat) (hb : b ≤ 127) (hm : m < 4294967296) (hr : rest ≤ 20) :
    bits .or .u32 ((b : Int) * 2 ^ rest % 4294967296) (bits .and .u32 (m : Int) ((2 ^ rest - 1) % 4294967296)) = ((b * 2 ^ rest + m % 2 ^ rest : Nat) : Int) := by
  have h1 : 2 ^ rest ≤ 2 ^ 20 := Nat.pow_le_pow_right (by decide) hr
  have h0 : 1 ≤ 2 ^ rest := Nat.one_le_two_pow
  have h2 : b * 2 ^ rest ≤ 127 * 2 ^ 20 := Nat.mul_le_mul hb h1
  have e1 : (b : Int) * 2 ^ rest % 4294967296 = ((b * 2 ^ rest : Nat) : Int) := by
    have e : (b : Int) * 2 ^ rest = ((b * 2 ^ rest : Nat) : Int) := by push_cast; rfl
    rw [e]
    omega
  have e2 : ((2 : Int) ^ rest - 1) % 4294967296 = ((2 ^ rest - 1 : Nat) : Int) := by
    have e : (2 : Int) ^ rest = ((2 ^ rest : Nat) : Int) := by push_cast; rfl
    rw [e]
    omega
  have h3 : m % 2 ^ rest < 2 ^ rest := Nat.mod_lt _ h0
  rw [e1, e2, mask_u32 m rest hm (by omega), bitsor_u32 _ _ (by omega) (by omega), or_front b rest _ h3]
end Go.Proofs.YtofikgjoiidhmaaGreatDoor

namespace Go.Proofs.YtofikgjoiidhmaaGreatDoor
open Go.RowKit Go

def wB (c : UInt8) : Nat := (widthOf (letOf c)).toNat
def bB (c : UInt8) : Nat := (bitsOf (letOf c)).toNat
/-- The bits of as many first letters as fit in 'free' bits, from their highest on, and how many letters these are. -/
def fillN : Nat → List UInt8 → Nat × Nat
  | _, [] => (0, 0)
  | free, c :: r => if free < wB c then (0, 0) else (bB c * 2 ^ (free - wB c) + (fillN (free - wB c) r).1, (fillN (free - wB c) r).2 + 1)
theorem fillN_nil (free : Nat) : fillN free [] = (0, 0) := by simp [fillN]
theorem fillN_stop {free : Nat} {c : UInt8} {r : List UInt8} (h : free < wB c) : fillN free (c :: r) = (0, 0) := by simp [fillN, h]
theorem fillN_go {free : Nat} {c : UInt8} {r : List UInt8} (h : wB c ≤ free) : fillN free (c :: r) = (bB c * 2 ^ (free - wB c) + (fillN (free - wB c) r).1, (fillN (free - wB c) r).2 + 1) := by
  have h' : ¬ free < wB c := by omega
  simp [fillN, h']
theorem let_cases (c : UInt8) : letOf c = -1 ∨ ∃ k : Nat, k < 48 ∧ letOf c = (k : Int) := by
  have h := letOf_range c
  rcases Int.lt_or_le (letOf c) 0 with h0 | h0
  · exact Or.inl (by omega)
  · exact Or.inr ⟨(letOf c).toNat, by omega, by omega⟩
theorem wB_int (c : UInt8) : ((wB c : Nat) : Int) = widthOf (letOf c) := by
  unfold wB
  rcases let_cases c with h | ⟨k, hk, h⟩
  · rw [h]; rfl
  · rw [h]
    obtain ⟨d, hd, _, _⟩ := widthOf_nat hk
    rw [hd]; rfl
theorem wB_le (c : UInt8) : wB c ≤ 7 := by
  unfold wB
  rcases let_cases c with h | ⟨k, hk, h⟩
  · rw [h]; decide
  · rw [h]
    obtain ⟨d, hd, _, h2⟩ := widthOf_nat hk
    rw [hd]; exact h2
theorem bB_int (c : UInt8) : ((bB c : Nat) : Int) = bitsOf (letOf c) := by
  unfold bB
  rcases let_cases c with h | ⟨k, hk, h⟩
  · rw [h]; rfl
  · rw [h]; exact (code_apart k hk).2.1
theorem bB_lt (c : UInt8) : bB c < 2 ^ wB c := by
  unfold bB wB
  rcases let_cases c with h | ⟨k, hk, h⟩
  · rw [h]; decide
  · rw [h]; exact (code_apart k hk).1
theorem bB_le (c : UInt8) : bB c ≤ 127 := by
  have h1 := bB_lt c
  have h2 := wB_le c
  have h3 : 2 ^ wB c ≤ 2 ^ 7 := Nat.pow_le_pow_right (by decide) h2
  omega
theorem fillN_lt : ∀ (l : List UInt8) (free : Nat), (fillN free l).1 < 2 ^ free
  | [], free => by rw [fillN_nil]; exact Nat.two_pow_pos _
  | c :: r, free => by
    rcases Nat.lt_or_ge free (wB c) with h | h
    · rw [fillN_stop h]; exact Nat.two_pow_pos _
    · rw [fillN_go h]
      have h1 := fillN_lt r (free - wB c)
      have h2 := bB_lt c
      have e : (2 : Nat) ^ free = 2 ^ wB c * 2 ^ (free - wB c) := by rw [← Nat.pow_add, show wB c + (free - wB c) = free by omega]
      rw [e]
      calc bB c * 2 ^ (free - wB c) + (fillN (free - wB c) r).1 < bB c * 2 ^ (free - wB c) + 2 ^ (free - wB c) := by omega
        _ = (bB c + 1) * 2 ^ (free - wB c) := by rw [Nat.add_mul, Nat.one_mul]
        _ ≤ 2 ^ wB c * 2 ^ (free - wB c) := Nat.mul_le_mul_right _ h2
theorem fillN_len : ∀ (l : List UInt8) (free : Nat), (fillN free l).2 ≤ l.length
  | [], free => by rw [fillN_nil]; exact Nat.le_refl _
  | c :: r, free => by
    rcases Nat.lt_or_ge free (wB c) with h | h
    · rw [fillN_stop h]; exact Nat.zero_le _
    · rw [fillN_go h]
      exact Nat.succ_le_succ (fillN_len r (free - wB c))
theorem fillN_pos {l : List UInt8} (h : l ≠ []) : 1 ≤ (fillN 28 l).2 := by
  cases l with
  | nil => exact absurd rfl h
  | cons c r =>
    have := wB_le c
    rw [fillN_go (by omega)]
    exact Nat.succ_le_succ (Nat.zero_le _)
theorem fillN_take : ∀ (l : List UInt8) (free : Nat), fillN free (l.take (fillN free l).2) = fillN free l
  | [], free => by simp [fillN]
  | c :: r, free => by
    rcases Nat.lt_or_ge free (wB c) with h | h
    · rw [fillN_stop h]; simp [fillN]
    · rw [fillN_go h, List.take_succ_cons, fillN_go h, fillN_take r (free - wB c)]

def byteAt (k : Int) : UInt8 := UInt8.ofNat (letAt k).toNat
theorem letAt_of {c : UInt8} (h : 0 ≤ letOf c) : byteAt (letOf c) = c := by
  rcases let_cases c with h0 | ⟨k, hk, h0⟩
  · omega
  · have h1 := (Lib.indexByte_some (show Lib.indexByte lets.data.toList c = ((k : Nat) : Int) from h0)).1
    have h3 : lets.data.toList[k]? = some lets[k] := List.getElem?_eq_getElem (by show k < 48; exact hk)
    rw [h3] at h1
    have h2 := Option.some.inj h1
    unfold byteAt
    rw [h0, letAt_some hk]
    exact (show UInt8.ofNat (lets[k]'(by rw [lets_size]; exact hk)).toNat = _ from UInt8.ofNat_toNat).trans h2
theorem decode_mod (x y : Nat) (n : Nat) (h : x % 2 ^ n = y % 2 ^ n) : decode x n = decode y n := by
  unfold decode decodeN
  have e : codeAt x n = codeAt y n := by
    funext k
    unfold codeAt
    rw [h]
  simp only [Int.toNat_natCast, e]
theorem decode_zero (x n : Nat) (h : x % 2 ^ n = 0) : (decode x n).1 ≤ 0 := by
  unfold decode
  by_cases h0 : 1 ≤ (n : Int) ∧ (n : Int) ≤ 32
  · rw [if_pos h0]
    show (decodeN x n).1 ≤ 0
    rcases Nat.lt_or_ge n 4 with h1 | h1
    · rw [decodeN_none fun j hj => ?_]
      · decide
      · obtain ⟨d, hd, h2, _⟩ := widthOf_nat hj
        exact codeAt_short hd (by omega)
    · rw [decodeN_some (k := 0) (by decide) ?_ fun j hj => by omega]
      · decide
      · have e : widthOf ((0 : Nat) : Int) = ((4 : Nat) : Int) := rfl
        have e2 : bitsOf ((0 : Nat) : Int) = 0 := rfl
        refine codeAt_true (t := 0) e e2 h1 ?_ rfl
        rw [h, Nat.zero_div]; rfl
  · rw [if_neg h0]; show (-1 : Int) ≤ 0; decide
theorem decode_some {x n : Nat} (h : 0 ≤ (decode x n).1) : ∃ k d : Nat, k < 48 ∧ decode x n = ((k : Int), (d : Int)) ∧ widthOf (k : Int) = (d : Int) ∧ 4 ≤ d ∧ d ≤ 7 ∧ d ≤ n := by
  unfold decode at h ⊢
  by_cases h0 : 1 ≤ (n : Int) ∧ (n : Int) ≤ 32
  · rw [if_pos h0] at h ⊢
    show ∃ k d : Nat, k < 48 ∧ decodeN x n = ((k : Int), (d : Int)) ∧ _
    change 0 ≤ (decodeN x n).1 at h
    unfold decodeN at h ⊢
    cases hf : (List.range 48).find? (codeAt x n) with
    | none => rw [hf] at h; exact absurd h (by decide)
    | some k =>
      have hk : k < 48 := by
        have := List.mem_of_find?_eq_some hf
        simpa using this
      have hc := List.find?_some hf
      obtain ⟨d, hd, h4, h7⟩ := widthOf_nat hk
      refine ⟨k, d, hk, by simp only [hd], hd, h4, h7, ?_⟩
      rw [codeAt_iff hd rfl] at hc
      exact (of_decide_eq_true hc).1
  · rw [if_neg h0] at h; exact absurd h (by decide)

/-- The letters whose codes stand in the n lowest bits of f. -/
def unpN : Nat → Nat → Nat → List UInt8
  | 0, _, _ => []
  | k + 1, f, n => if (decode f n).1 ≤ 0 then [] else byteAt (decode f n).1 :: unpN k f (n - (decode f n).2.toNat)
theorem unpN_stop {k f n : Nat} (h : (decode f n).1 ≤ 0) : unpN k f n = [] := by
  cases k with
  | zero => rfl
  | succ k => simp [unpN, h]
theorem unpN_go {k f n : Nat} (h : ¬ (decode f n).1 ≤ 0) : unpN (k + 1) f n = byteAt (decode f n).1 :: unpN k f (n - (decode f n).2.toNat) := by
  simp [unpN, h]
def nameByteL (l : List UInt8) : Prop := ∀ c ∈ l, nameByte c = true
theorem unp_fill : ∀ (l : List UInt8) (k free F : Nat), free ≤ 28 → free ≤ k → nameByteL l → F % 2 ^ free = (fillN free l).1 → unpN k F free = l.take (fillN free l).2
  | [], k, free, F, h28, hk, hl, hF => by
    rw [fillN_nil] at hF ⊢
    rw [unpN_stop (decode_zero _ _ hF)]
    rfl
  | c :: r, k, free, F, h28, hk, hl, hF => by
    rcases Nat.lt_or_ge free (wB c) with h | h
    · rw [fillN_stop h] at hF ⊢
      rw [unpN_stop (decode_zero _ _ hF)]
      rfl
    · have hlt := fillN_lt r (free - wB c)
      have hall := fillN_lt (c :: r) free
      rw [fillN_go h] at hF hall ⊢
      have hc : 1 ≤ letOf c := of_decide_eq_true (hl c (by simp))
      rcases let_cases c with h0 | ⟨j, hj, h0⟩
      · omega
      · have ew : wB c = wN j := by unfold wB wN; rw [h0]
        have eb : bB c = bN j := by unfold bB bN; rw [h0]
        have hd4 : 4 ≤ wN j := by
          obtain ⟨d, hd, h4, _⟩ := widthOf_nat hj
          unfold wN; rw [hd]; exact h4
        have hcf := code_front j (free - wB c) (fillN (free - wB c) r).1 hj hlt
        rw [← eb, ← ew, show wB c + (free - wB c) = free by omega] at hcf
        have hdec : decode F free = ((j : Int), widthOf j) := by
          rw [decode_mod F (bB c * 2 ^ (free - wB c) + (fillN (free - wB c) r).1) free (by rw [hF, Nat.mod_eq_of_lt hall])]
          unfold decode
          rw [if_pos (by omega)]
          exact hcf
        obtain ⟨k', rfl⟩ : ∃ k', k = k' + 1 := ⟨k - 1, by omega⟩
        have hpos : ¬ (decode F free).1 ≤ 0 := by rw [hdec]; show ¬ (j : Int) ≤ 0; omega
        rw [unpN_go hpos, hdec, List.take_succ_cons]
        have e1 : byteAt ((j : Int)) = c := by rw [← h0]; exact letAt_of (by omega)
        show byteAt (j : Int) :: unpN k' F (free - wN j) = _
        rw [e1, ← ew]
        congr 1
        refine unp_fill r k' (free - wB c) F (by omega) (by omega) (fun x hx => hl x (by simp [hx])) ?_
        have hdvd : 2 ^ (free - wB c) ∣ 2 ^ free := Nat.pow_dvd_pow 2 (by omega)
        rw [← Nat.mod_mod_of_dvd F hdvd, hF, Nat.mul_add_mod_self_right, Nat.mod_eq_of_lt hlt]

def unpOne (f : Nat) : List UInt8 := if f < 2 ^ 28 then unpN 28 f 28 else []
theorem unpN_len : ∀ (k f n : Nat), (unpN k f n).length ≤ k
  | 0, f, n => Nat.le_refl _
  | k + 1, f, n => by
    by_cases h : (decode f n).1 ≤ 0
    · rw [unpN_stop h]; exact Nat.zero_le _
    · rw [unpN_go h]; exact Nat.succ_le_succ (unpN_len k f _)
theorem unpOne_len (f : Nat) : (unpOne f).length ≤ 28 := by
  unfold unpOne
  split
  · exact unpN_len 28 f 28
  · exact Nat.zero_le _
theorem unpOne_fill {l : List UInt8} (hl : nameByteL l) : unpOne (fillN 28 l).1 = l.take (fillN 28 l).2 := by
  have h := fillN_lt l 28
  unfold unpOne
  rw [if_pos h]
  exact unp_fill l 28 28 _ (Nat.le_refl _) (Nat.le_refl _) hl (Nat.mod_eq_of_lt h)

/-- The fields of a name's letters. -/
def packN : Nat → List UInt8 → List Nat
  | 0, _ => []
  | n + 1, l => if l = [] then [] else (fillN 28 l).1 :: packN n (l.drop (fillN 28 l).2)
theorem packN_nil (n : Nat) : packN n [] = [] := by cases n <;> simp [packN]
theorem packN_go {n : Nat} {l : List UInt8} (h : l ≠ []) : packN (n + 1) l = (fillN 28 l).1 :: packN n (l.drop (fillN 28 l).2) := by simp [packN, h]
theorem packN_fuel : ∀ (n m : Nat) (l : List UInt8), l.length ≤ n → l.length ≤ m → packN n l = packN m l
  | n, m, [], _, _ => by rw [packN_nil, packN_nil]
  | 0, m, c :: r, h, _ => by simp at h
  | n + 1, 0, c :: r, _, h => by simp at h
  | n + 1, m + 1, c :: r, h1, h2 => by
    have hp := fillN_pos (l := c :: r) (by simp)
    have hl : ((c :: r).drop (fillN 28 (c :: r)).2).length ≤ r.length := by rw [List.length_drop, List.length_cons]; omega
    rw [packN_go (by simp), packN_go (by simp), packN_fuel n m _ (by simp at h1; omega) (by simp at h2; omega)]
theorem packN_len : ∀ (n : Nat) (l : List UInt8), (packN n l).length ≤ l.length
  | n, [] => by rw [packN_nil]; exact Nat.le_refl _
  | 0, c :: r => Nat.zero_le _
  | n + 1, c :: r => by
    have hp := fillN_pos (l := c :: r) (by simp)
    have h := packN_len n ((c :: r).drop (fillN 28 (c :: r)).2)
    have hl : ((c :: r).drop (fillN 28 (c :: r)).2).length ≤ r.length := by rw [List.length_drop, List.length_cons]; omega
    rw [packN_go (by simp), List.length_cons, List.length_cons]
    omega
theorem packN_small : ∀ (n : Nat) (l : List UInt8), ∀ f ∈ packN n l, f < 2 ^ 28
  | 0, l => fun f h => absurd h List.not_mem_nil
  | n + 1, l => fun f h => by
    by_cases hl : l = []
    · rw [hl, packN_nil] at h; simp at h
    · rw [packN_go hl] at h
      rcases List.mem_cons.1 h with h | h
      · rw [h]; exact fillN_lt l 28
      · exact packN_small n _ f h
def packL (l : List UInt8) : List Nat := packN l.length l
theorem packL_go {l : List UInt8} (h : l ≠ []) : packL l = (fillN 28 l).1 :: packL (l.drop (fillN 28 l).2) := by
  have hp := fillN_pos h
  obtain ⟨m, hm⟩ : ∃ m, l.length = m + 1 := ⟨l.length - 1, by have := List.length_pos_iff.2 h; omega⟩
  unfold packL
  rw [hm, packN_go h, packN_fuel m _ _ (by rw [List.length_drop]; omega) (Nat.le_refl _)]
theorem packL_nil : packL [] = [] := rfl
theorem packL_len (l : List UInt8) : (packL l).length ≤ l.length := packN_len _ _
theorem packL_small (l : List UInt8) : ∀ f ∈ packL l, f < 2 ^ 28 := packN_small _ _

def nameL (l : List UInt8) : Bool := decide (1 ≤ l.length ∧ l.length ≤ 24 ∧ ∀ c ∈ l, nameByte c = true)
theorem nameOk_list (s : ByteArray) : nameOk s = nameL s.data.toList := by
  unfold nameOk nameL
  have e : s.data.toList.length = s.size := rfl
  rw [e]
  have : (∀ (i : Nat) (h : i < s.size), nameByte s[i] = true) ↔ ∀ c ∈ s.data.toList, nameByte c = true := by
    constructor
    · intro h c hc
      obtain ⟨i, hi, rfl⟩ := List.getElem_of_mem hc
      exact h i hi
    · intro h i hi
      have : s[i] ∈ s.data.toList := by
        have h2 : s.data.toList[i]'hi ∈ s.data.toList := List.getElem_mem _
        exact h2
      exact h _ this
  rw [Bool.eq_iff_iff]
  simp only [decide_eq_true_eq, this]
def packs (l : List UInt8) : List Nat := if nameL l = true then packL l else []
theorem packs_yes {l : List UInt8} (h : nameL l = true) : packs l = packL l := by unfold packs; rw [if_pos h]
theorem packs_no {l : List UInt8} (h : nameL l = false) : packs l = [] := by unfold packs; rw [if_neg (by rw [h]; decide)]
theorem packs_len (l : List UInt8) : (packs l).length ≤ l.length ∧ (packs l).length ≤ 24 := by
  cases h : nameL l with
  | false => rw [packs_no h]; exact ⟨Nat.zero_le _, by decide⟩
  | true =>
    rw [packs_yes h]
    have h1 := packL_len l
    have h2 := (of_decide_eq_true h).2.1
    exact ⟨h1, by omega⟩
theorem packs_small (l : List UInt8) : ∀ f ∈ packs l, f < 2 ^ 28 := by
  cases h : nameL l with
  | false => rw [packs_no h]; simp
  | true => rw [packs_yes h]; exact packL_small l
theorem packs_one (l : List UInt8) : (if nameL l = true then fillN 28 l else (0, 0)).1 < 2 ^ 28 := by
  split
  · exact fillN_lt l 28
  · exact Nat.two_pow_pos _
def pack1 (l : List UInt8) : Nat × Nat := if nameL l = true then fillN 28 l else (0, 0)
theorem pack1_yes {l : List UInt8} (h : nameL l = true) : pack1 l = fillN 28 l := by unfold pack1; rw [if_pos h]
theorem pack1_no {l : List UInt8} (h : nameL l = false) : pack1 l = (0, 0) := by unfold pack1; rw [if_neg (by rw [h]; decide)]

def unpAll : List Nat → List UInt8
  | [] => []
  | f :: r => unpOne f ++ unpAll r
theorem unpAll_append : ∀ (a b : List Nat), unpAll (a ++ b) = unpAll a ++ unpAll b
  | [], b => rfl
  | f :: r, b => by show unpOne f ++ unpAll (r ++ b) = (unpOne f ++ unpAll r) ++ unpAll b; rw [unpAll_append r b, List.append_assoc]
theorem unpAll_len : ∀ l : List Nat, (unpAll l).length ≤ 28 * l.length
  | [] => Nat.le_refl _
  | f :: r => by
    have h1 := unpOne_len f
    have h2 := unpAll_len r
    show (unpOne f ++ unpAll r).length ≤ 28 * (r.length + 1)
    rw [List.length_append]
    omega
theorem unpAll_packN : ∀ (n : Nat) (l : List UInt8), l.length ≤ n → nameByteL l → unpAll (packN n l) = l
  | n, [], _, _ => by rw [packN_nil]; rfl
  | 0, c :: r, h, _ => by simp at h
  | n + 1, c :: r, h, hl => by
    have hp := fillN_pos (l := c :: r) (by simp)
    have hd : ((c :: r).drop (fillN 28 (c :: r)).2).length ≤ r.length := by rw [List.length_drop, List.length_cons]; omega
    rw [packN_go (by simp)]
    show unpOne _ ++ unpAll _ = _
    rw [unpAll_packN n _ (by simp at h; omega) (fun x hx => hl x (List.mem_of_mem_drop hx)), unpOne_fill hl, List.take_append_drop]
/-- Whether a list is a name's fields. -/
def fieldsOk (l : List Nat) : Bool := decide (l.length ≤ 24 ∧ packs (unpAll l) = l) && nameL (unpAll l)
def unpacked (l : List Nat) : List UInt8 := if fieldsOk l = true then unpAll l else []
theorem nameL_bytes {l : List UInt8} (h : nameL l = true) : nameByteL l := (of_decide_eq_true h).2.2
theorem fieldsOk_packs {l : List UInt8} (h : nameL l = true) : fieldsOk (packs l) = true ∧ unpAll (packs l) = l := by
  have e : unpAll (packs l) = l := by
    rw [packs_yes h]
    exact unpAll_packN _ l (Nat.le_refl _) (nameL_bytes h)
  refine ⟨?_, e⟩
  unfold fieldsOk
  rw [e, h, Bool.and_true]
  exact decide_eq_true ⟨(packs_len l).2, rfl⟩
theorem nameL_take {l : List UInt8} (h : nameL l = true) : nameL (l.take (fillN 28 l).2) = true := by
  obtain ⟨h1, h2, h3⟩ := of_decide_eq_true h
  have hne : l ≠ [] := by intro e; rw [e] at h1; simp at h1
  have hp := fillN_pos hne
  refine decide_eq_true ⟨?_, ?_, fun c hc => h3 c (List.mem_of_mem_take hc)⟩
  · rw [List.length_take]; omega
  · rw [List.length_take]; omega
theorem fieldsOk_first {l : List UInt8} (h : nameL l = true) : fieldsOk [(fillN 28 l).1] = true := by
  have hl := nameL_bytes h
  have h2 := nameL_take h
  have hn2 : l.take (fillN 28 l).2 ≠ [] := by intro e; rw [e] at h2; exact absurd h2 (by decide)
  have e1 : unpAll [(fillN 28 l).1] = l.take (fillN 28 l).2 := by
    show unpOne _ ++ [] = _
    rw [List.append_nil, unpOne_fill hl]
  unfold fieldsOk
  rw [e1, h2, Bool.and_true]
  refine decide_eq_true ⟨show (1 : Nat) ≤ 24 by decide, ?_⟩
  rw [packs_yes h2, packL_go hn2, fillN_take]
  have : (l.take (fillN 28 l).2).drop (fillN 28 l).2 = [] := by rw [List.drop_take_self]
  rw [this, packL_nil]
theorem nameL_drop {l : List UInt8} (h : nameL l = true) (n : Nat) (hne : l.drop n ≠ []) : nameL (l.drop n) = true := by
  obtain ⟨h1, h2, h3⟩ := of_decide_eq_true h
  refine decide_eq_true ⟨List.length_pos_iff.2 hne, ?_, fun c hc => h3 c (List.mem_of_mem_drop hc)⟩
  rw [List.length_drop]; omega
theorem fieldsOk_each : ∀ (n : Nat) (l : List UInt8), nameL l = true → ∀ f ∈ packN n l, fieldsOk [f] = true
  | 0, l, _ => fun f h => absurd h List.not_mem_nil
  | n + 1, l, h => fun f hf => by
    by_cases hl : l = []
    · rw [hl, packN_nil] at hf; simp at hf
    · rw [packN_go hl] at hf
      rcases List.mem_cons.1 hf with hf | hf
      · rw [hf]; exact fieldsOk_first h
      · by_cases hd : l.drop (fillN 28 l).2 = []
        · rw [hd, packN_nil] at hf; simp at hf
        · exact fieldsOk_each n _ (nameL_drop h _ hd) f hf
theorem fieldsOk_mem {l : List UInt8} (h : nameL l = true) : ∀ f ∈ packs l, fieldsOk [f] = true := by
  rw [packs_yes h]
  exact fieldsOk_each _ l h
theorem packs_some {l : List UInt8} (h : nameL l = true) : packs l ≠ [] := by
  obtain ⟨h1, _, _⟩ := of_decide_eq_true h
  have hne : l ≠ [] := by intro e; rw [e] at h1; simp at h1
  rw [packs_yes h, packL_go hne]
  exact List.cons_ne_nil _ _
/-- A field that is a name's is what that name is packed into, and all of its letters fit. -/
theorem fieldsOk_one {f : Nat} (h : fieldsOk [f] = true) : pack1 (unpOne f) = (f, (unpOne f).length) := by
  unfold fieldsOk at h
  rw [Bool.and_eq_true] at h
  obtain ⟨h1, h2⟩ := h
  have e1 : unpAll [f] = unpOne f := List.append_nil _
  rw [e1] at h1 h2
  obtain ⟨_, h3⟩ := of_decide_eq_true h1
  rw [packs_yes h2] at h3
  have hne : unpOne f ≠ [] := by intro e; rw [e] at h2; exact absurd h2 (by decide)
  rw [packL_go hne] at h3
  injection h3 with h4 h5
  have h6 : (unpOne f).drop (fillN 28 (unpOne f)).2 = [] := by
    cases hd : (unpOne f).drop (fillN 28 (unpOne f)).2 with
    | nil => rfl
    | cons a b => rw [hd, packL_go (by simp)] at h5; exact absurd h5 (List.cons_ne_nil _ _)
  have h7 := fillN_len (unpOne f) 28
  have h8 : (unpOne f).length ≤ (fillN 28 (unpOne f)).2 := by simpa using h6
  rw [pack1_yes h2]
  exact Prod.ext h4 (by show (fillN 28 (unpOne f)).2 = _; omega)
theorem fieldsOk_back {l : List Nat} (h : fieldsOk l = true) : packs (unpAll l) = l := by
  unfold fieldsOk at h
  rw [Bool.and_eq_true] at h
  exact (of_decide_eq_true h.1).2
theorem fieldsOk_single (f : Nat) : fieldsOk [f] = decide (packs (unpOne f) = [f]) := by
  unfold fieldsOk
  have e1 : unpAll [f] = unpOne f := List.append_nil _
  rw [e1, Bool.eq_iff_iff, Bool.and_eq_true]
  constructor
  · intro ⟨h1, _⟩
    exact decide_eq_true (of_decide_eq_true h1).2
  · intro h
    have h2 := of_decide_eq_true h
    refine ⟨decide_eq_true ⟨show (1 : Nat) ≤ 24 by decide, h2⟩, ?_⟩
    cases hn : nameL (unpOne f) with
    | true => rfl
    | false => rw [packs_no hn] at h2; exact absurd h2.symm (List.cons_ne_nil _ _)
end Go.Proofs.YtofikgjoiidhmaaGreatDoor

namespace Go.Proofs.YtofikgjoiidhmaaGreatDoor
open Go.RowKit Go

def u8v (c : UInt8) : Value := .int .u8 (c.toNat : Int)
theorem infoU8 : (Tryz.prog.info? 5).map (fun i => (i.zero, i.size, i.bytes)) = some (some (.int .u8 0), 1, 1) := by kernel_rfl
/-- 'string(b)' of bytes of the call's own. -/
theorem own_string {P : Program} {w : World} {base : Nat} {src dst e : TypeId} {v : Value} {l : List UInt8} (hs : P.underlying src = some (.slice e)) (he : P.underlying e = some (.int .u8)) (hd : P.underlying dst = some .string)
    (h : w.ownsRow base e 1 v l.length (l.map u8v)) : (convert src dst v).run P w = .ok (.string ⟨l.toArray⟩) w := by
  rcases h.2 with ⟨rfl, h0⟩ | ⟨g, cap, cur, rfl, hb, hg, hn, hm, hsz, ht⟩
  · have hl : l = [] := List.eq_nil_of_length_eq_zero h0
    subst hl
    exact run_convert_bytes_nil w src e hs he 0 0 dst hd
  · refine run_convert_bytes_back w src dst e _ _ l hs he hd fun j hj => ?_
    rw [addr_lit, Nat.zero_add, cell_of_row w g j cur e (0, 0) hg]
    have h1 := congrArg (·[j]?) ht
    simpa [List.getElem?_take, hj, u8v] using h1
theorem byteAt_int {k : Nat} (h : k < 48) : letAt (k : Int) = ((byteAt (k : Int)).toNat : Int) := by
  obtain ⟨_, h2, h3⟩ := back_all k h
  unfold byteAt
  rw [UInt8.toNat_ofNat_of_lt' (by show _ < 256; omega)]
  omega
end Go.Proofs.YtofikgjoiidhmaaGreatDoor

namespace Go.Proofs.YtofikgjoiidhmaaGreatDoor
open Go.RowKit

def inB (x a b : Int) : Bool := decide (a ≤ x ∧ x ≤ b)
theorem inB_true {x a b : Int} (h0 : a ≤ x) (h1 : x ≤ b) : inB x a b = true := by unfold inB; simp [h0, h1]
theorem inB_false {x a b : Int} (h : ¬ (a ≤ x ∧ x ≤ b)) : inB x a b = false := by unfold inB; simpa using h
theorem inB_iff {x a b : Int} : inB x a b = true ↔ a ≤ x ∧ x ≤ b := by unfold inB; simp

theorem in_any (x a b : Int) (w : World) :
    Calls Tryz.prog 44 #[.int .i64 x, .int .i64 a, .int .i64 b] w fun e w' => e = .returned (.bool (inB x a b)) ∧ w = w' := by
  by_cases h0 : a ≤ x
  · by_cases h1 : x ≤ b
    · rw [inB_true h0 h1]
      go_enter Tryz.func44, Tryz.ntmps44
      go_wp2
      go_ret
      exact ⟨rfl, rfl⟩
    · rw [inB_false (by omega)]
      have h1' : decide (x ≤ b) = false := by simpa using h1
      go_enter Tryz.func44, Tryz.ntmps44
      go_wp2
      go_ret
      exact ⟨rfl, rfl⟩
  · rw [inB_false (by omega)]
    have h0' : decide (a ≤ x) = false := by simpa using h0
    go_enter Tryz.func44, Tryz.ntmps44
    go_wp2
    go_ret
    exact ⟨rfl, rfl⟩
end Go.Proofs.YtofikgjoiidhmaaGreatDoor

namespace Go.Proofs.YtofikgjoiidhmaaGreatDoor
open Go.RowKit

theorem lets_any (w : World) : Calls Tryz.prog 140 #[] w fun e w' => e = .returned (.string lets) ∧ w = w' := by
  go_enter Tryz.func140, Tryz.ntmps140
  go_wp2
  go_ret
  exact ⟨rfl, rfl⟩

theorem spec_letterat (k : Int) (w : World) : Calls Tryz.prog 189 #[.int .i64 k] w fun e w' => e = .returned (.int .u8 (letAt k)) ∧ w = w' := by
  by_cases h : 0 ≤ k ∧ k ≤ 47
  · obtain ⟨n, rfl⟩ : ∃ n : Nat, k = n := ⟨k.toNat, by omega⟩
    have hn : n < 48 := by omega
    have hb := Lib.hid (inB_true h.1 h.2)
    have hi := Lib.hid (in_any (n : Int) 0 47 w)
    obtain ⟨s, hs⟩ : ∃ s, lets = s := ⟨_, rfl⟩
    have ha := Lib.hid (lets_any w)
    have hA := Lib.hid (letAt_some hn)
    have hsz := lets_size
    rw [hs] at ha hsz
    have HS := Lib.hid hs
    have hlt : n < s.size := by omega
    clear h hs hsz
    go_enter Tryz.func189, Tryz.ntmps189
    go_wp2_with fail
    refine hi.out.mono ?_
    rintro e w' ⟨he, rfl⟩
    rw [hb.out] at he
    subst he
    go_wp2_with fail
    refine ha.out.mono ?_
    rintro e w' ⟨rfl, rfl⟩
    go_wp2_with fail
    go_ret
    refine ⟨?_, rfl⟩
    rw [hA.out]
    have := HS.out
    subst this
    rfl
  · rw [letAt_none h]
    have hb := Lib.hid (inB_false h)
    clear h
    go_enter Tryz.func189, Tryz.ntmps189
    go_wp2_with fail
    refine (in_any _ _ _ _).mono ?_
    rintro e w' ⟨he, rfl⟩
    rw [hb.out] at he
    subst he
    go_wp2_with fail
    go_ret
    exact ⟨rfl, rfl⟩

end Go.Proofs.YtofikgjoiidhmaaGreatDoor

namespace Go.Proofs.YtofikgjoiidhmaaGreatDoor
open Go.RowKit

theorem spec_widthof (k : Int) (w : World) : Calls Tryz.prog 191 #[.int .i64 k] w fun e w' => e = .returned (.int .i64 (widthOf k)) ∧ w = w' := by
  have HI : ∀ a b, Hid (Calls Tryz.prog 44 #[.int .i64 k, .int .i64 a, .int .i64 b] w fun e w' => e = .returned (.bool (inB k a b)) ∧ w = w') := fun a b => Lib.hid (in_any k a b w)
  by_cases h0 : inB k 0 7 = true
  · have e : widthOf k = 4 := by
      rw [inB_iff] at h0
      unfold widthOf
      rw [if_neg (by omega), if_pos (by omega)]
    rw [e]
    have H0 := Lib.hid h0
    clear h0 e
    go_enter Tryz.func191, Tryz.ntmps191
    go_wp2_with fail
    refine (HI 0 7).out.mono ?_
    rintro e w' ⟨he, rfl⟩
    rw [H0.out] at he
    subst he
    go_wp2_with fail
    go_ret
    exact ⟨rfl, rfl⟩
  · by_cases h1 : inB k 8 15 = true
    · have e : widthOf k = 5 := by
        rw [inB_iff] at h0 h1
        unfold widthOf
        rw [if_neg (by omega), if_neg (by omega), if_pos (by omega)]
      rw [e]
      have H0 := Lib.hid (show inB k 0 7 = false by simpa using h0)
      have H1 := Lib.hid h1
      clear h0 h1 e
      go_enter Tryz.func191, Tryz.ntmps191
      go_wp2_with fail
      refine (HI 0 7).out.mono ?_
      rintro e w' ⟨he, rfl⟩
      rw [H0.out] at he
      subst he
      go_wp2_with fail
      refine (HI 8 15).out.mono ?_
      rintro e w' ⟨he, rfl⟩
      rw [H1.out] at he
      subst he
      go_wp2_with fail
      go_ret
      exact ⟨rfl, rfl⟩
    · have H0 := Lib.hid (show inB k 0 7 = false by simpa using h0)
      have H1 := Lib.hid (show inB k 8 15 = false by simpa using h1)
      have H3 : Hid (widthOf k = if inB k 16 47 then 7 else 0) := Lib.hid (by
        rw [inB_iff] at h0 h1
        by_cases h2 : inB k 16 47 = true
        · rw [if_pos h2]
          rw [inB_iff] at h2
          unfold widthOf
          rw [if_neg (by omega), if_neg (by omega), if_neg (by omega), if_pos (by omega)]
        · rw [if_neg h2]
          rw [inB_iff] at h2
          unfold widthOf
          by_cases h4 : k < 0
          · rw [if_pos h4]
          · rw [if_neg h4, if_neg (by omega), if_neg (by omega), if_neg (by omega)])
      rw [H3.out]
      clear h0 h1
      by_cases h2 : inB k 16 47 = true
      · rw [if_pos h2]
        have H2 := Lib.hid h2
        clear h2
        go_enter Tryz.func191, Tryz.ntmps191
        go_wp2_with fail
        refine (HI 0 7).out.mono ?_
        rintro e w' ⟨he, rfl⟩
        rw [H0.out] at he
        subst he
        go_wp2_with fail
        refine (HI 8 15).out.mono ?_
        rintro e w' ⟨he, rfl⟩
        rw [H1.out] at he
        subst he
        go_wp2_with fail
        refine (HI 16 47).out.mono ?_
        rintro e w' ⟨he, rfl⟩
        rw [H2.out] at he
        subst he
        go_wp2_with fail
        go_ret
        exact ⟨rfl, rfl⟩
      · rw [if_neg h2]
        have H2 := Lib.hid (show inB k 16 47 = false by simpa using h2)
        clear h2
        go_enter Tryz.func191, Tryz.ntmps191
        go_wp2_with fail
        refine (HI 0 7).out.mono ?_
        rintro e w' ⟨he, rfl⟩
        rw [H0.out] at he
        subst he
        go_wp2_with fail
        refine (HI 8 15).out.mono ?_
        rintro e w' ⟨he, rfl⟩
        rw [H1.out] at he
        subst he
        go_wp2_with fail
        refine (HI 16 47).out.mono ?_
        rintro e w' ⟨he, rfl⟩
        rw [H2.out] at he
        subst he
        go_wp2_with fail
        go_ret
        exact ⟨rfl, rfl⟩

theorem impl_letterof (c : UInt8) (w : World) : Calls Tryz.prog 133 #[.int .u8 (c.toNat : Int)] w fun e w' => e = .returned (.int .i64 (letOf c)) ∧ w = w' := by
  have HC := Lib.hid (Tryz.strings_IndexByte lets (c.toNat : Int) w)
  go_enter Tryz.func133, Tryz.ntmps133
  go_wp2_with fail
  refine HC.out.mono ?_
  rintro e w' ⟨rfl, hw⟩
  subst hw
  go_wp2_with fail
  go_ret
  exact ⟨rfl, rfl⟩

set_option maxHeartbeats 1000000 in
theorem spec_letterof (c : UInt8) (w : World) : Calls Tryz.prog 77 #[.int .u8 (c.toNat : Int)] w fun e w' => e = .returned (.int .i64 (letOf c)) ∧ w = w' := by
  have HL := Lib.hid (lets_any w)
  have HF : Hid (∀ (k : Nat) (h : k < 48), lets[k]'(by rw [lets_size]; exact h) = c → (∀ (j : Nat) (hj : j < k), lets[j]'(by rw [lets_size]; omega) ≠ c) → letOf c = k) := Lib.hid fun k h => letOf_first h
  have HN : Hid ((∀ (j : Nat) (hj : j < 48), lets[j]'(by rw [lets_size]; exact hj) ≠ c) → letOf c = -1) := Lib.hid letOf_none
  obtain ⟨s, hs⟩ : ∃ s, lets = s := ⟨_, rfl⟩
  obtain ⟨v, hv⟩ : ∃ v, letOf c = v := ⟨_, rfl⟩
  have hsz := lets_size
  have HF2 : Hid (∀ (k : Nat) (h : k < s.size), s[k] = c → (∀ (j : Nat) (hj : j < k), s[j] ≠ c) → v = k) := Lib.hid (by subst hs hv; exact HF.out)
  have HN2 : Hid ((∀ (j : Nat) (hj : j < s.size), s[j] ≠ c) → v = -1) := Lib.hid (by subst hs hv; exact HN.out)
  rw [hv]
  rw [hs] at HL hsz
  clear hs hv HF HN
  have hc0 := u8_le c
  have HS : Hid (s.size = 48) := Lib.hid hsz
  have hs1 : s.size ≤ 48 := by omega
  clear hsz
  go_enter Tryz.func77, Tryz.ntmps77
  go_wp2_with fail
  refine HL.out.mono ?_
  rintro e w' ⟨rfl, rfl⟩
  go_wp2_with fail
  go_loop [4] (fun i => ∃ k : Nat, k ≤ s.size ∧ i = .int .i64 k ∧ Hid (∀ (j : Nat) (hj : j < s.size), j < k → s[j] ≠ c)) (fun i => s.size - (intOf i).toNat)
  case atStart => exact ⟨0, by omega, rfl, Lib.hid fun j _ h => by omega⟩
  case round =>
    obtain ⟨k, hk, rfl, HK⟩ := hrel
    by_cases hlt : k < s.size
    · have hck := u8_le s[k]
      by_cases he : s[k] = c
      · have he' : ((s[k].toNat : Int) == (c.toNat : Int)) = true := by simp [he]
        have HV := Lib.hid (HF2.out k hlt he fun j hj => HK.out j (by omega) hj)
        clear he
        go_wp2
        go_ret
        exact ⟨by rw [HV.out]; rfl, rfl⟩
      · have he' : ((s[k].toNat : Int) == (c.toNat : Int)) = false := u8_ne he
        have HK2 : Hid (∀ (j : Nat) (hj : j < s.size), j < k + 1 → s[j] ≠ c) := Lib.hid fun j hj h => by
          rcases Nat.lt_or_ge j k with h2 | h2
          · exact HK.out j hj h2
          · obtain rfl : j = k := by omega
            exact he
        clear he
        go_wp2
        go_round
        case rel => exact ⟨k + 1, by omega, by go_num, HK2⟩
        case measure => simp [intOf]; omega
    · have HV := Lib.hid (HN2.out fun j hj => HK.out j hj (by omega))
      go_wp2
      go_ret
      exact ⟨by rw [HV.out]; rfl, rfl⟩
end Go.Proofs.YtofikgjoiidhmaaGreatDoor
