/-
  From a walk that ends in 'true' and 'nothing that was there has changed' to what a law's row says behind the call, at every program and every shape of the arguments.
  What every row of this seat asks of the program as a whole.
  What the walks of this seat import.
  A block that is known whole: what it holds, and how it is kept.
  Lists of numbers of 32 bits: whether two are alike, a copy of one, the marks that are laid into one, whether they lie there.
  A copy of a list of numbers of 32 bits.
  What lists of any kind of number have in common.
-/
import Derived.ProofKit
import Derived.WalkKit
import Derived.LaidMore
import Derived.OpenShut
import Derived.Stop.Joined
import Derived.Sort.Grow
import Derived.Lib.Hide
import Derived.Deep.Draws
import Derived.OpenVars
import Derived.ChangeVars
import Derived.Test.YtdiaiflleiebfaaGreatDoorRows
import Derived.MakeChecks
import Derived.Test.YtdiaiflleiebfaaGreatDoorProg
import Derived.WalkSpells
import Derived.WalkSmall
import Derived.LoopTactic
import Derived.BigQuiet
import Derived.Deep.QuietTactic
import Derived.WalkMore
import Derived.ScopeJumps
import Derived.Below
import Derived.Laws.Rows
import Derived.Deep.DrawnRows
import Derived.DataElems
import Derived.OwnWalk
import Derived.Deep.Onto
namespace Go.Proofs.YtdiaiflleiebfaaGreatDoor
open Go.ChangeShapes Go.WideShapes Go.ChangeAt Go.RowKit

theorem below_drewN {B : Nat} {a w : World} (h : Below B a w) (n : Nat) : Below B a (w.drewN n) := ⟨h.os, h.tape, h.output, h.size, h.block⟩
theorem below_grow {B : Nat} {a w : World} (h : Below B a w) (os : Array Obj) (hB : B ≤ w.heap.size) : Below B a (Go.Sort.grow w os) :=
  h.trans ⟨rfl, rfl, rfl, by simp [Go.Sort.grow], fun k hk => by show (w.heap ++ os)[k]? = _; rw [Array.getElem?_append_left (by omega)]⟩
theorem below_regrow (w : World) (k : Nat) (os : Array Obj) : Below w.heap.size w (Go.Sort.grow (w.drewN k) os) := below_grow (below_drewN (Below.refl _ _) k) os (by simp)
theorem bcell {W w1 : World} (hb : Below W.heap.size W w1) : (∀ b o, b < W.heap.size → w1.cell? ⟨b, o, none⟩ = W.cell? ⟨b, o, none⟩) ∧ (∀ b o, b < W.heap.size → w1.frozen? ⟨b, o, none⟩ = W.frozen? ⟨b, o, none⟩) :=
  ⟨fun b o h => hb.cell (p := ⟨b, o, none⟩) h, fun b o h => hb.frozen (p := ⟨b, o, none⟩) h⟩
theorem var?_below {P : Program} {W W' : World} {n : String} {cs : Array Value} (h : W.var? P n = some cs) (hb : Below W.heap.size W W') : W'.var? P n = some cs := by
  unfold World.var? at h ⊢
  cases hg : P.globalNamed n with
  | none => rw [hg] at h; simp at h
  | some g =>
    rw [hg] at h
    simp only [Option.bind_some] at h ⊢
    cases hw : W.heap[g]? with
    | none => rw [hw] at h; simp at h
    | some o => rw [hw] at h; rw [hb.block g (Array.getElem?_eq_some_iff.1 hw).1, hw]; exact h

theorem trodAll_below {H : Type} {enc : TypeId × Value → H} {P : Program} (hl : laidOutB P = true) {W W' : World} (hb : Below W.heap.size W W') :
    ∀ {ts : List TypeId} {vs : List Value} {ds : List (DataW H)} {ps : List MemPlace}, (ts.all fun t => P.readableRec t && decide (t < P.types.size)) = true → DataW.TrodAll enc P W 0 (fun _ => true) true ts vs ds ps → (∀ x ∈ ps, x.block < W.heap.size) →
      DataW.TrodAll enc P W' 0 (fun b => decide (b < W.heap.size)) true ts vs ds ps
  | [], [], [], _, _, h, _ => h
  | t :: ts, v :: vs, d :: ds, _, hr, ⟨p, q, h1, h2, e⟩, hlt => by
    simp only [List.all_cons, Bool.and_eq_true, decide_eq_true_eq] at hr
    subst e
    exact ⟨p, q, Below.trod hl hr.1.1 hr.1.2 h1 hb (fun x hx => hlt x (List.mem_append_left _ hx)), trodAll_below hl hb hr.2 h2 (fun x hx => hlt x (List.mem_append_right _ hx)), rfl⟩
  | [], _ :: _, _, _, _, h, _ => h.elim
  | [], [], _ :: _, _, _, h, _ => h.elim
  | _ :: _, [], _, _, _, h, _ => h.elim
  | _ :: _, _ :: _, [], _, _, h, _ => h.elim

/-- WHAT A LAW'S ROW ASKS BEHIND THE CALL, where it names package-level variables. -/
theorem law_postV {H : Type} {enc : TypeId × Value → H} {P : Program} {f : Func} {s : ChangeSpec} {W W' : World} {args : Array Value} {ds gs : List (DataW H)} {before : List MemPlace} {tb : TypeId}
    (hl : laidOutB P = true) (hread : (f.params.toList.all fun t => P.readableRec t && decide (t < P.types.size)) = true) (hvr : varsRowed P s.vars = true)
    (hW : DataW.Whole enc P f.params.toList s.vars false W args.toList ds gs before) (hb : Below W.heap.size W W')
    (hres : f.resultTypes = #[tb]) (htb : P.underlying tb = some .bool)
    (hfn : (s.fn H (ds ++ gs)).results = [.lit (.bool true)] ∧ (s.fn H (ds ++ gs)).args = ds ∧ (s.fn H (ds ++ gs)).vars = gs) :
    s.post enc P f false true false false W args (.bool true) W' := by
  obtain ⟨h1, h2, h3⟩ := hfn
  have hlt : ∀ p ∈ before, p.block < W.heap.size := fun p hp => hW.lt p hp
  have hW2 := hW
  obtain ⟨p, q, hA, hV, rfl, _, _⟩ := hW2
  refine ⟨ds, gs, p ++ q, [], p, q, hW, ?_, ?_, ?_, hb.frame _, fun h => by cases h⟩
  · rw [h1, hres]
    exact trodAll_mk1 (shut_bool htb _)
  · rw [h2]
    exact trodAll_below hl hb hread hA (fun x hx => hlt x (List.mem_append_left _ hx))
  · rw [h3]
    exact Below.trodVars hl hb hvr hV
theorem gs_one {H : Type} {enc : TypeId × Value → H} {P : Program} {w : World} {spare : Nat → Bool} {n : String} {gs : List (DataW H)} {ps : List MemPlace} (h : DataW.TrodVars enc P w spare [n] gs ps) : ∃ g, gs = [g] := by
  cases gs with
  | nil => exact h.elim
  | cons d ds =>
    obtain ⟨_, _, _, _, _, q, _, _, _, _, hs, _⟩ := h
    obtain ⟨rfl, -⟩ := trodVars_none hs
    exact ⟨d, rfl⟩
theorem gs_two {H : Type} {enc : TypeId × Value → H} {P : Program} {w : World} {spare : Nat → Bool} {n m : String} {gs : List (DataW H)} {ps : List MemPlace} (h : DataW.TrodVars enc P w spare [n, m] gs ps) : ∃ g k, gs = [g, k] := by
  cases gs with
  | nil => exact h.elim
  | cons d ds =>
    obtain ⟨_, _, _, _, _, q, _, _, _, _, hs, _⟩ := h
    obtain ⟨k, rfl⟩ := gs_one hs
    exact ⟨d, k, rfl⟩
theorem gs_three {H : Type} {enc : TypeId × Value → H} {P : Program} {w : World} {spare : Nat → Bool} {n m o : String} {gs : List (DataW H)} {ps : List MemPlace} (h : DataW.TrodVars enc P w spare [n, m, o] gs ps) : ∃ g k l, gs = [g, k, l] := by
  cases gs with
  | nil => exact h.elim
  | cons d ds =>
    obtain ⟨_, _, _, _, _, q, _, _, _, _, hs, _⟩ := h
    obtain ⟨k, l, rfl⟩ := gs_two hs
    exact ⟨d, k, l, rfl⟩

/-- WHAT A LAW'S ROW ASKS BEHIND THE CALL. -/
theorem law_post {H : Type} {enc : TypeId × Value → H} {P : Program} {f : Func} {s : ChangeSpec} {W W' : World} {args : Array Value} {ds gs : List (DataW H)} {before : List MemPlace} {tb : TypeId}
    (hl : laidOutB P = true) (hread : (f.params.toList.all fun t => P.readableRec t && decide (t < P.types.size)) = true)
    (hW : DataW.Whole enc P f.params.toList s.vars false W args.toList ds gs before) (hv : s.vars = []) (hb : Below W.heap.size W W')
    (hres : f.resultTypes = #[tb]) (htb : P.underlying tb = some .bool)
    (hfn : (s.fn H (ds ++ gs)).results = [.lit (.bool true)] ∧ (s.fn H (ds ++ gs)).args = ds ∧ (s.fn H (ds ++ gs)).vars = []) :
    s.post enc P f false true false false W args (.bool true) W' := by
  obtain ⟨h1, h2, h3⟩ := hfn
  have hlt : ∀ p ∈ before, p.block < W.heap.size := fun p hp => hW.lt p hp
  have hW2 := hW
  obtain ⟨p, q, hA, hV, rfl, _, _⟩ := hW2
  rw [hv] at hV
  obtain ⟨rfl, rfl⟩ := trodVars_none hV
  refine ⟨ds, [], p ++ [], [], p, [], hW, ?_, ?_, ?_, hb.frame _, fun h => by cases h⟩
  · rw [h1, hres]
    exact trodAll_mk1 (shut_bool htb _)
  · rw [h2]
    exact trodAll_below hl hb hread hA (fun x hx => hlt x (by simpa using hx))
  · rw [hv, h3]
    rfl
end Go.Proofs.YtdiaiflleiebfaaGreatDoor

namespace Go.Proofs.YtdiaiflleiebfaaGreatDoor
theorem own : ownKnob Tryz.prog.godebug = none := by kernel_rfl
theorem laidOut : laidOutB Tryz.prog = true := by kernel_rfl
end Go.Proofs.YtdiaiflleiebfaaGreatDoor

namespace Go.Proofs.YtdiaiflleiebfaaGreatDoor
theorem u8_le (c : UInt8) : c.toNat ≤ 255 := by have := c.toNat_lt; omega
theorem u8_ne {a b : UInt8} (h : a ≠ b) : ((a.toNat : Int) == (b.toNat : Int)) = false := by
  have h2 : a.toNat ≠ b.toNat := fun e => h (UInt8.toNat.inj e)
  simp
  omega
theorem u8_eq {a b : UInt8} (h : a = b) : ((a.toNat : Int) == (b.toNat : Int)) = true := by simp [h]
end Go.Proofs.YtdiaiflleiebfaaGreatDoor

namespace Go.Proofs.YtdiaiflleiebfaaGreatDoor
open Go.RowKit

/-- Block g is just these cells of one element type, none frozen. -/
def Blk (w : World) (g : Nat) (t : TypeId) (cs : Array Value) : Prop := w.heap[g]? = some (.cells cs t (0, 0))
section
variable {w w' : World} {g : Nat} {t : TypeId} {cs : Array Value}
theorem Blk.lt (h : Blk w g t cs) : g < w.heap.size := by
  rcases Nat.lt_or_ge g w.heap.size with hlt | hge
  · exact hlt
  · unfold Blk at h; rw [Array.getElem?_eq_none hge] at h; cases h
theorem Blk.cell (h : Blk w g t cs) (i : Nat) : w.cell? ⟨g, i, none⟩ = cs[i]? := cell_of_row w g i cs t (0, 0) h
theorem Blk.frozen (h : Blk w g t cs) (i : Nat) : w.frozen? ⟨g, i, none⟩ = false := by
  unfold Blk at h
  simp [World.frozen?, h]
theorem Blk.new (w : World) (t : TypeId) (cs : Array Value) : Blk (w.alloc (.cells cs t)) w.heap.size t cs := heap_alloc_new w _
theorem Blk.drew (h : Blk w g t cs) : Blk w.drew g t cs := h
theorem Blk.alloc (h : Blk w g t cs) (o : Obj) : Blk (w.alloc o) g t cs := (Below.heap_alloc w o g h.lt).trans h
theorem Blk.put (h : Blk w g t cs) (i : Nat) (u : Value) : Blk (w.setCell ⟨g, i, none⟩ u) g t (cs.setIfInBounds i u) := by
  unfold Blk at h ⊢
  simp [World.setCell, Array.getElem?_modify, h]
theorem Blk.far (h : Blk w g t cs) {p : Addr} (hp : g ≠ p.block) (u : Value) : Blk (w.setCell p u) g t cs := (Below.heap_setCell w p u g hp).trans h
theorem Blk.below {B : Nat} (h : Blk w g t cs) (hb : Below B w w') (hg : g < B) : Blk w' g t cs := (hb.block g hg).trans h
theorem Blk.grown {row : Option Nat} (h : Blk w g t cs) (hb : w.grownBy w' row) (hg : some g ≠ row) : Blk w' g t cs := (hb.block g h.lt hg).trans h
end
theorem only_drewN {a w : World} {row : Option Nat} (h : a.grownBy w row) (n : Nat) : a.grownBy (w.drewN n) row := ⟨h.os, h.tape, h.output, h.size, h.block⟩
theorem only_drew {a w : World} {row : Option Nat} (h : a.grownBy w row) : a.grownBy w.drew row := ⟨h.os, h.tape, h.output, h.size, h.block⟩
theorem only_alloc {a w : World} {row : Option Nat} (h : a.grownBy w row) (o : Obj) : a.grownBy (w.alloc o) row :=
  ⟨h.os, h.tape, h.output, Nat.le_trans h.size (by simp), fun i hi hne => (Below.heap_alloc w o i (Nat.lt_of_lt_of_le hi h.size)).trans (h.block i hi hne)⟩
theorem only_setCell {a w : World} {g : Nat} (h : a.grownBy w (some g)) {p : Addr} (hp : p.block = g ∨ a.heap.size ≤ p.block) (u : Value) : a.grownBy (w.setCell p u) (some g) :=
  ⟨h.os, h.tape, h.output, by simpa [World.setCell] using h.size, fun i hi hne => (Below.heap_setCell w p u i (by
    rintro rfl
    rcases hp with hp | hp
    · exact hne (by rw [hp])
    · omega)).trans (h.block i hi hne)⟩
theorem only_of_below {a w : World} (h : Below a.heap.size a w) (row : Option Nat) : a.grownBy w row := ⟨h.os, h.tape, h.output, h.size, fun i hi _ => h.block i hi⟩
theorem only_trans {a b c : World} {row : Option Nat} (h : a.grownBy b row) (k : b.grownBy c row) : a.grownBy c row :=
  ⟨k.os.trans h.os, k.tape.trans h.tape, k.output.trans h.output, Nat.le_trans h.size k.size, fun i hi hn => (k.block i (Nat.lt_of_lt_of_le hi h.size) hn).trans (h.block i hi hn)⟩
theorem below_of_only {a b : World} {g B : Nat} (h : a.grownBy b (some g)) (hB : B ≤ a.heap.size) (hg : B ≤ g) : Below B a b :=
  ⟨h.os, h.tape, h.output, h.size, fun k hk => h.block k (by omega) (fun e => by injection e with e; omega)⟩
end Go.Proofs.YtdiaiflleiebfaaGreatDoor

namespace Go.Proofs.YtdiaiflleiebfaaGreatDoor
open Go.RowKit Go

def u32v (n : Nat) : Value := .int .u32 (n : Int)
/-- A list of numbers that can be read. -/
def RdN (w : World) (v : Value) (xs : List Nat) : Prop :=
  ∃ (A : Option Addr) (cap : Nat), v = .slice A xs.length cap ∧ xs.length ≤ 4611686018427387904 ∧ ∀ i (h : i < xs.length), ∃ a, A = some a ∧ a.block < w.heap.size ∧ w.cell? (a.add i) = some (u32v xs[i])
theorem addr_addb (a : Addr) (n : Nat) : (a.add n).block = a.block := by unfold Addr.add; split <;> rfl
theorem addr_lit (b o n : Nat) : Addr.add ⟨b, o, none⟩ n = ⟨b, o + n, none⟩ := by unfold Addr.add; split <;> simp_all
theorem RdN.keep {w w' : World} {v : Value} {xs : List Nat} (h : RdN w v xs) (hs : w.heap.size ≤ w'.heap.size) (hk : ∀ p : Addr, p.block < w.heap.size → (∃ a, v = .slice (some a) xs.length (match v with | .slice _ _ c => c | _ => 0) ∧ p.block = a.block) → w'.cell? p = w.cell? p) : RdN w' v xs := by
  obtain ⟨A, cap, rfl, hl, hc⟩ := h
  refine ⟨A, cap, rfl, hl, fun i hi => ?_⟩
  obtain ⟨a, rfl, e2, e3⟩ := hc i hi
  exact ⟨a, rfl, by omega, (hk _ (by rw [addr_addb]; exact e2) ⟨a, rfl, addr_addb _ _⟩).trans e3⟩
theorem RdN.below {w w' : World} {v : Value} {xs : List Nat} (h : RdN w v xs) (hb : Below w.heap.size w w') : RdN w' v xs := h.keep hb.size fun _ hp _ => hb.cell hp
theorem RdN.of_own {w : World} {base : Nat} {e : TypeId} {v : Value} {xs : List Nat} (h : w.ownsRow base e 1 v xs.length (xs.map u32v)) (hl : xs.length ≤ 4611686018427387904) : RdN w v xs := by
  rcases h.2 with ⟨rfl, h0⟩ | ⟨g, cap, cur, rfl, hb, hg, hn, hm, hsz, ht⟩
  · refine ⟨none, 0, by rw [h0], hl, fun i hi => by omega⟩
  · refine ⟨_, cap, rfl, hl, fun i hi => ⟨⟨g, 0, none⟩, rfl, (Array.getElem?_eq_some_iff.1 hg).1, ?_⟩⟩
    rw [addr_lit, Nat.zero_add, cell_of_row w g i cur e (0, 0) hg]
    have h1 := congrArg (·[i]?) ht
    simpa [List.getElem?_take, hi] using h1
theorem own_lt {W : World} {base : Nat} {e : TypeId} {size : Nat} {v : Value} {n : Nat} {xs : List Value} (h : W.ownsRow base e size v n xs) : ∀ k, v.ownBlock = some k → base ≤ k := fun k hk => by
  rcases h.2 with ⟨rfl, _⟩ | ⟨g, cap, cur, rfl, h1, _, _⟩
  · simp [Value.ownBlock] at hk
  · obtain rfl : g = k := by simpa [Value.ownBlock] using hk
    exact h1
theorem own_empty (w : World) (e : TypeId) : (w.alloc (.cells #[] e)).ownsRow w.heap.size e 1 (.slice (some ⟨w.heap.size, 0, none⟩) 0 0) 0 [] :=
  ⟨rfl, .inr ⟨w.heap.size, 0, #[], rfl, Nat.le_refl _, heap_alloc_new w _, Nat.le_refl _, Nat.zero_le _, rfl, rfl⟩⟩
/-- A new list of numbers. -/
def NewN (w : World) (xs : List Nat) (e : Ending) (w' : World) : Prop := ∃ v, e = .returned v ∧ w'.ownsRow w.heap.size 36 1 v xs.length (xs.map u32v) ∧ Below w.heap.size w w'
theorem u32_ne {a b : Nat} (h : a ≠ b) : ((a : Int) == (b : Int)) = false := by simp; omega
theorem u32_bne {a b : Nat} (h : a ≠ b) : ((a : Int) != (b : Int)) = true := by simp; omega
theorem u32_beq (a : Nat) : ((a : Int) != (a : Int)) = false := by simp

set_option maxHeartbeats 1000000 in
theorem eqn_any (a b : Value) (xs ys : List Nat) (w : World) (ha : RdN w a xs) (hb : RdN w b ys) :
    Calls Tryz.prog 71 #[a, b] w fun e w' => e = .returned (.bool (decide (xs = ys))) ∧ ∃ d, w' = w.drewN d := by
  obtain ⟨A, ca, rfl, hla, hca⟩ := ha
  obtain ⟨B, cb, rfl, hlb, hcb⟩ := hb
  have HA := Lib.hid hca
  have HB := Lib.hid hcb
  clear hca hcb
  by_cases hl : xs.length = ys.length
  · have hl' : ((xs.length : Int) != (ys.length : Int)) = false := by simp [hl]
    have HL := Lib.hid hl
    clear hl
    go_enter Tryz.func71, Tryz.ntmps71
    go_wp2
    go_loopw [5] (fun vi wr => ∃ i d : Nat, vi = .int .i64 i ∧ i ≤ xs.length ∧ Hid (wr = w.drewN d) ∧ Hid (∀ j (h : j < xs.length), j < i → ys[j]? = some xs[j])) (fun vi _ => xs.length - (intOf vi).toNat)
    case atStart => exact ⟨0, 0, rfl, by omega, by rw [World.drewN_zero]; rfl, fun j _ h => by omega⟩
    case round =>
      obtain ⟨i, d, rfl, hi, HW, HE⟩ := hrel
      by_cases hp : i < xs.length
      · obtain ⟨ga, rfl, -, ha⟩ := HA.out i hp
        obtain ⟨gb, rfl, -, hb⟩ := HB.out i (by have := HL.out; omega)
        have hcA : wr.cell? (ga.add i) = some (.int .u32 (xs[i] : Int)) := by rw [HW.out]; exact ha
        have hcB : wr.cell? (gb.add i) = some (.int .u32 ((ys[i]'(by have := HL.out; omega) : Nat) : Int)) := by rw [HW.out]; exact hb
        have i1 : (0 : Int) ≤ (i : Int) := by omega
        have i2 : (i : Int) < (xs.length : Int) := by omega
        have i3 : (i : Int) < (ys.length : Int) := by have := HL.out; omega
        clear ha hb
        by_cases he : xs[i] = ys[i]'(by have := HL.out; omega)
        · have HE2 : Hid (∀ j (h : j < xs.length), j < i + 1 → ys[j]? = some xs[j]) := Lib.hid fun j hj h2 => by
            rcases Nat.lt_or_ge j i with h3 | h3
            · exact HE.out j hj h3
            · obtain rfl : j = i := by omega
              rw [List.getElem?_eq_getElem (by omega), he]
          rw [← he] at hcB
          clear he
          go_wp2
          go_quiet (fail)
          go_wp2
          go_roundw
          case rel => exact ⟨i + 1, _, by go_num, by omega, by rw [HW.out, World.drewN_drewN]; rfl, HE2.out⟩
          case measure => simp [intOf]; omega
        · have hne := u32_bne he
          have hd : decide (xs = ys) = false := decide_eq_false fun e => he (by simp [e])
          have HD := Lib.hid hd
          clear he hd
          go_wp2
          go_quiet (fail)
          go_wp2
          go_ret
          exact ⟨by rw [HD.out]; rfl, _, by rw [HW.out, World.drewN_drewN]⟩
      · have hd : decide (xs = ys) = true := decide_eq_true (List.ext_getElem HL.out fun j h1 h2 => by
          have := HE.out j h1 (by omega)
          rw [List.getElem?_eq_getElem h2] at this
          exact (Option.some.inj this).symm)
        have HD := Lib.hid hd
        clear hd
        go_wp2
        go_ret
        exact ⟨by rw [HD.out]; rfl, d, HW.out⟩
  · have hl' : ((xs.length : Int) != (ys.length : Int)) = true := by simp; omega
    have e : decide (xs = ys) = false := by simpa using fun e => hl (by rw [e])
    rw [e]
    clear hl e
    go_enter Tryz.func71, Tryz.ntmps71
    go_wp2
    go_ret
    exact ⟨rfl, 0, by rw [World.drewN_zero]⟩

set_option maxHeartbeats 1000000 in
theorem samecells_any (a b : Value) (xs ys : List Nat) (w : World) (ha : RdN w a xs) (hb : RdN w b ys) :
    Calls Tryz.prog 47 #[a, b] w fun e w' => e = .returned (.bool (decide (xs = ys))) ∧ ∃ d, w' = w.drewN d := by
  obtain ⟨A, ca, rfl, hla, hca⟩ := ha
  obtain ⟨B, cb, rfl, hlb, hcb⟩ := hb
  have HA := Lib.hid hca
  have HB := Lib.hid hcb
  clear hca hcb
  by_cases hl : xs.length = ys.length
  · have hl' : ((xs.length : Int) != (ys.length : Int)) = false := by simp [hl]
    have HL := Lib.hid hl
    clear hl
    go_enter Tryz.func47, Tryz.ntmps47
    go_wp2
    go_loopw [5] (fun vi wr => ∃ i d : Nat, vi = .int .i64 i ∧ i ≤ xs.length ∧ Hid (wr = w.drewN d) ∧ Hid (∀ j (h : j < xs.length), j < i → ys[j]? = some xs[j])) (fun vi _ => xs.length - (intOf vi).toNat)
    case atStart => exact ⟨0, 0, rfl, by omega, by rw [World.drewN_zero]; rfl, fun j _ h => by omega⟩
    case round =>
      obtain ⟨i, d, rfl, hi, HW, HE⟩ := hrel
      by_cases hp : i < xs.length
      · obtain ⟨ga, rfl, -, ha⟩ := HA.out i hp
        obtain ⟨gb, rfl, -, hb⟩ := HB.out i (by have := HL.out; omega)
        have hcA : wr.cell? (ga.add i) = some (.int .u32 (xs[i] : Int)) := by rw [HW.out]; exact ha
        have hcB : wr.cell? (gb.add i) = some (.int .u32 ((ys[i]'(by have := HL.out; omega) : Nat) : Int)) := by rw [HW.out]; exact hb
        have i1 : (0 : Int) ≤ (i : Int) := by omega
        have i2 : (i : Int) < (xs.length : Int) := by omega
        have i3 : (i : Int) < (ys.length : Int) := by have := HL.out; omega
        clear ha hb
        by_cases he : xs[i] = ys[i]'(by have := HL.out; omega)
        · have HE2 : Hid (∀ j (h : j < xs.length), j < i + 1 → ys[j]? = some xs[j]) := Lib.hid fun j hj h2 => by
            rcases Nat.lt_or_ge j i with h3 | h3
            · exact HE.out j hj h3
            · obtain rfl : j = i := by omega
              rw [List.getElem?_eq_getElem (by omega), he]
          rw [← he] at hcB
          clear he
          go_wp2
          go_quiet (fail)
          go_wp2
          go_roundw
          case rel => exact ⟨i + 1, _, by go_num, by omega, by rw [HW.out, World.drewN_drewN]; rfl, HE2.out⟩
          case measure => simp [intOf]; omega
        · have hne := u32_bne he
          have hd : decide (xs = ys) = false := decide_eq_false fun e => he (by simp [e])
          have HD := Lib.hid hd
          clear he hd
          go_wp2
          go_quiet (fail)
          go_wp2
          go_ret
          exact ⟨by rw [HD.out]; rfl, _, by rw [HW.out, World.drewN_drewN]⟩
      · have hd : decide (xs = ys) = true := decide_eq_true (List.ext_getElem HL.out fun j h1 h2 => by
          have := HE.out j h1 (by omega)
          rw [List.getElem?_eq_getElem h2] at this
          exact (Option.some.inj this).symm)
        have HD := Lib.hid hd
        clear hd
        go_wp2
        go_ret
        exact ⟨by rw [HD.out]; rfl, d, HW.out⟩
  · have hl' : ((xs.length : Int) != (ys.length : Int)) = true := by simp; omega
    have e : decide (xs = ys) = false := by simpa using fun e => hl (by rw [e])
    rw [e]
    clear hl e
    go_enter Tryz.func47, Tryz.ntmps47
    go_wp2
    go_ret
    exact ⟨rfl, 0, by rw [World.drewN_zero]⟩

set_option maxHeartbeats 1000000 in
theorem heldn_any (v : Value) (xs : List Nat) (k : Nat) (h1 : k ≤ 4194304) (hx : xs.length ≤ 4194304) (w : World) (ha : RdN w v xs) :
    Calls Tryz.prog 81 #[v, .int .i64 k] w fun e w' => e = .returned (.int .i64 (if xs = (List.range xs.length).map (k + ·) then (k : Int) + xs.length else -1)) ∧ w = w' := by
  obtain ⟨A, ca, rfl, hla, hca⟩ := ha
  have HA := Lib.hid hca
  clear hca hla
  obtain ⟨q, hq⟩ : ∃ q, (if xs = (List.range xs.length).map (k + ·) then (k : Int) + xs.length else -1) = q := ⟨_, rfl⟩
  have HY : Hid ((∀ j (h : j < xs.length), xs[j] = k + j) → q = (k : Int) + xs.length) := Lib.hid fun h => by
    rw [← hq, if_pos]
    exact List.ext_getElem (by simp) fun j h2 h3 => by simpa using h j h2
  have HN : Hid (∀ j (h : j < xs.length), xs[j] ≠ k + j → q = -1) := Lib.hid fun j hj hne => by
    rw [← hq, if_neg]
    intro e
    refine hne ?_
    have : xs[j]? = ((List.range xs.length).map (k + ·))[j]? := by rw [← e]
    rw [List.getElem?_eq_getElem hj] at this
    simpa [hj] using this
  rw [hq]
  clear hq
  go_enter Tryz.func81, Tryz.ntmps81
  go_wp2
  go_loop [1, 5] (fun vk vi => ∃ i : Nat, vi = .int .i64 i ∧ vk = .int .i64 ((k + i : Nat) : Int) ∧ i ≤ xs.length ∧ Hid (∀ j (h : j < xs.length), j < i → xs[j] = k + j)) (fun _ vi => xs.length - (intOf vi).toNat)
  case atStart => exact ⟨0, rfl, rfl, by omega, Lib.hid fun j _ h => by omega⟩
  case round =>
    obtain ⟨i, rfl, rfl, hi, HE⟩ := hrel
    by_cases hp : i < xs.length
    · obtain ⟨ga, rfl, -, ha⟩ := HA.out i hp
      have hc : w.cell? (ga.add i) = some (.int .u32 (xs[i] : Int)) := ha
      have i2 : (i : Int) < (xs.length : Int) := by omega
      obtain ⟨x, hxx⟩ : ∃ x, xs[i] = x := ⟨_, rfl⟩
      rw [hxx] at hc
      by_cases he : x = k + i
      · have HE2 : Hid (∀ j (h : j < xs.length), j < i + 1 → xs[j] = k + j) := Lib.hid fun j hj h2 => by
          rcases Nat.lt_or_ge j i with h3 | h3
          · exact HE.out j hj h3
          · obtain rfl : j = i := by omega
            rw [hxx, he]
        have he' : ((x : Int) != ((k : Int) + (i : Int))) = false := by simp; omega
        clear ha hxx he
        go_wp2
        go_round
        case rel => exact ⟨i + 1, by go_num, by go_num, by omega, HE2⟩
        case measure => simp [intOf]; omega
      · have hQ := Lib.hid (HN.out i hp (by rw [hxx]; exact he))
        have he' : ((x : Int) != ((k : Int) + (i : Int))) = true := by simp; omega
        clear ha hxx he
        go_wp2
        go_ret
        exact ⟨by rw [hQ.out]; rfl, rfl⟩
    · have hQ := Lib.hid (HY.out fun j hj => HE.out j hj (by omega))
      obtain rfl : i = xs.length := by omega
      go_wp2
      go_ret
      exact ⟨by rw [hQ.out]; simp, rfl⟩

/-- n marks, from k on. -/
def marksN (k n : Nat) : List Nat := (List.range n).map (k + ·)
theorem marksN_len (k n : Nat) : (marksN k n).length = n := by simp [marksN]
theorem marksN_succ (k i : Nat) : marksN k (i + 1) = marksN k i ++ [k + i] := by unfold marksN; rw [List.range_succ]; simp
theorem marksN_set {xs : List Nat} {k i : Nat} (h : i < xs.length) : ((marksN k i ++ xs.drop i).map u32v).set i (.int .u32 ((k : Int) + (i : Int))) = (marksN k (i + 1) ++ xs.drop (i + 1)).map u32v := by
  have e : Value.int .u32 ((k : Int) + (i : Int)) = u32v (k + i) := by unfold u32v; push_cast; rfl
  rw [e, marksN_succ, List.map_append, List.map_append, List.set_append_right _ _ (by simp [marksN_len]), List.length_map, marksN_len, Nat.sub_self, List.drop_eq_getElem_cons h, List.map_cons, List.set_cons_zero]
  simp
/-- Where marking stands: block g holds i marks, then what it held. -/
structure MarkedN (W wr : World) (g : Nat) (n : Nat) (xs : List Nat) (k i : Nat) (cap : Nat) (cur : Array Value) : Prop where
  blk : Blk wr g 36 cur
  size : cur.size = cap
  take : cur.toList.take n = (marksN k i ++ xs.drop i).map u32v
  grown : W.grownBy wr (some g)
theorem MarkedN.step {W wr : World} {g : Nat} {xs : List Nat} {k i cap : Nat} {cur : Array Value} (h : MarkedN W wr g xs.length xs k i cap cur) (hi : i < xs.length) :
    MarkedN W (wr.setCell ⟨g, i, none⟩ (.int .u32 ((k : Int) + (i : Int)))) g xs.length xs k (i + 1) cap (cur.setIfInBounds i (.int .u32 ((k : Int) + (i : Int)))) := by
  refine ⟨h.blk.put _ _, by simpa using h.size, ?_, only_setCell h.grown (.inl rfl) _⟩
  rw [Array.toList_setIfInBounds, List.take_set, h.take, marksN_set hi]
theorem MarkedN.cell {W wr : World} {g n : Nat} {xs : List Nat} {k i cap : Nat} {cur : Array Value} (h : MarkedN W wr g n xs k i cap cur) (hi : i < cap) : ∃ u, wr.cell? ⟨g, i, none⟩ = some u ∧ wr.frozen? ⟨g, i, none⟩ = false := by
  have hs := h.size
  exact ⟨cur[i]'(by omega), by rw [h.blk.cell, Array.getElem?_eq_getElem (by omega)], h.blk.frozen i⟩

set_option maxHeartbeats 1000000 in
theorem markn_any (base : Nat) (v : Value) (xs : List Nat) (k : Nat) (h1 : k ≤ 4194304) (hx : xs.length ≤ 4194304) (W : World) (hown : W.ownsRow base 36 1 v xs.length (xs.map u32v)) :
    Calls Tryz.prog 76 #[v, .int .i64 k] W fun e w' => e = .returned (.int .i64 ((k : Int) + xs.length)) ∧ w'.ownsRow base 36 1 v xs.length ((marksN k xs.length).map u32v) ∧ W.grownBy w' v.ownBlock := by
  rcases hown.2 with ⟨rfl, hn0⟩ | ⟨g, cap, cur, rfl, hb, hg, hn, hm, hsz, ht⟩
  · have hxs : xs = [] := List.eq_nil_of_length_eq_zero hn0
    subst hxs
    clear hown
    go_enter Tryz.func76, Tryz.ntmps76
    go_wp2
    go_loop [1, 5] (fun vk vi => vk = .int .i64 k ∧ vi = .int .i64 0) (fun _ _ => 0)
    case atStart => exact ⟨rfl, rfl⟩
    case round =>
      obtain ⟨rfl, rfl⟩ := hrel
      go_wp2
      go_ret
      exact ⟨by simp, World.ownsRow_nil _ _ _ _, World.grownBy.refl _ _⟩
  · have hstart : MarkedN W W g xs.length xs k 0 cap cur := ⟨hg, by simpa using hsz, by simpa [marksN] using ht, World.grownBy.refl _ _⟩
    clear hown hsz ht hg
    unfold maxLen at hm
    go_enter Tryz.func76, Tryz.ntmps76
    go_wp2
    go_loopw [1, 5] (fun vk vi wr => ∃ (i : Nat) (cur : Array Value), vi = .int .i64 i ∧ vk = .int .i64 ((k + i : Nat) : Int) ∧ i ≤ xs.length ∧ MarkedN W wr g xs.length xs k i cap cur) (fun _ vi _ => xs.length - (intOf vi).toNat)
    case atStart => exact ⟨0, cur, rfl, rfl, by omega, hstart⟩
    case round =>
      obtain ⟨i, cur2, rfl, rfl, hi, hM⟩ := hrel
      clear hstart
      by_cases hp : i < xs.length
      · have i1 : (i : Int) < (xs.length : Int) := by omega
        obtain ⟨u, hcu, hfu⟩ := hM.cell (show i < cap by omega)
        go_wp2
        go_roundw
        case rel => exact ⟨i + 1, _, by go_num, by go_num, by omega, hM.step hp⟩
        case measure => simp [intOf]; omega
      · obtain rfl : i = xs.length := by omega
        go_wp2
        go_ret
        refine ⟨by simp, ⟨by simp [marksN_len], .inr ⟨g, cap, cur2, rfl, hb, hM.blk, hn, by unfold maxLen; omega, by simpa using hM.size, ?_⟩⟩, hM.grown⟩
        have := hM.take
        simpa using this
end Go.Proofs.YtdiaiflleiebfaaGreatDoor

namespace Go.Proofs.YtdiaiflleiebfaaGreatDoor
open Go.RowKit Go

theorem infoU32 : (Tryz.prog.info? 36).map (fun i => (i.zero, i.size, i.bytes)) = some (some (.int .u32 0), 1, 4) := by kernel_rfl
def copied (xs : List Nat) (i : Nat) : List Nat := xs.take i ++ List.replicate (xs.length - i) 0
theorem copied_len (xs : List Nat) (i : Nat) (h : i ≤ xs.length) : (copied xs i).length = xs.length := by simp [copied]; omega
theorem copied_zero (xs : List Nat) : (copied xs 0).map u32v = List.replicate xs.length (.int .u32 0) := by simp [copied, u32v]
theorem copied_full (xs : List Nat) : copied xs xs.length = xs := by simp [copied]
theorem copied_set {xs : List Nat} {i : Nat} (h : i < xs.length) : ((copied xs i).map u32v).set i (.int .u32 (xs[i] : Int)) = (copied xs (i + 1)).map u32v := by
  have e : Value.int .u32 (xs[i] : Int) = u32v xs[i] := rfl
  rw [e, List.map_set.symm]
  congr 1
  unfold copied
  obtain ⟨m, hm⟩ : ∃ m, xs.length - i = m + 1 := ⟨xs.length - i - 1, by omega⟩
  rw [hm, show xs.length - (i + 1) = m by omega, List.replicate_succ, List.set_append_right _ _ (by simp; omega)]
  have : i - (xs.take i).length = 0 := by simp; omega
  rw [this, List.set_cons_zero, List.take_succ_eq_append_getElem h, List.append_assoc]
  rfl

set_option maxHeartbeats 1000000 in
theorem tou_any (v : Value) (xs : List Nat) (hx : xs.length ≤ 4194304) (W : World) (ha : RdN W v xs) : Calls Tryz.prog 66 #[v] W (NewN W xs) := by
  obtain ⟨i0, hi, hz0, hz1, hz2⟩ := info_parts infoU32
  obtain ⟨A, ca, rfl, hla, hca⟩ := ha
  have HA := Lib.hid hca
  clear hca hla
  go_enter Tryz.func66, Tryz.ntmps66
  go_wp2_with (refine wpList_make_full _ rfl _ _ _ rfl W.heap.size 36 i0 (.int .u32 0) 1 Tryz.underlying26 hi hz0 hz1 .i64 .i64 _ _ xs.length rfl rfl rfl rfl (by rw [hz2]; omega) (by unfold maxLen; omega) (Nat.le_refl _) ?_; intro w1 hown hgr)
  have hb1 : Below W.heap.size W w1 := (Below.refl _ _).grown hgr (Nat.le_refl _) (fun k hk => by cases hk)
  have hown1 : w1.ownsRow W.heap.size 36 1 (.slice (some ⟨W.heap.size, 0, none⟩) xs.length xs.length) xs.length ((copied xs 0).map u32v) := by
    rw [copied_zero]
    rw [show (madeCells (Value.int .u32 0).cells (xs.length * 1)).toList = List.replicate xs.length (.int .u32 0) by rw [Nat.mul_one]; exact toList_madeCells_one _ _] at hown
    exact hown
  clear hown hgr
  go_loopw [4] (fun vi wr => ∃ i : Nat, vi = .int .i64 i ∧ i ≤ xs.length ∧ wr.ownsRow W.heap.size 36 1 (.slice (some ⟨W.heap.size, 0, none⟩) xs.length xs.length) xs.length ((copied xs i).map u32v) ∧ Below W.heap.size W wr) (fun vi _ => xs.length - (intOf vi).toNat)
  case atStart => exact ⟨0, rfl, by omega, hown1, hb1⟩
  case round =>
    clear hown1 hb1
    obtain ⟨i, rfl, hi, hO, hB⟩ := hrel
    by_cases hp : i < xs.length
    · obtain ⟨ga, rfl, hgl, ha⟩ := HA.out i hp
      have hc : wr.cell? (ga.add i) = some (.int .u32 (xs[i] : Int)) := (hB.cell (by rw [addr_addb]; exact hgl)).trans ha
      have i2 : (i : Int) < (xs.length : Int) := by omega
      have hd : wr.cell? ⟨W.heap.size, i, none⟩ = some (u32v ((copied xs i)[i]'(by rw [copied_len xs i hi]; exact hp))) := by
        rw [hO.cellAt i (by omega)]
        simp [copied_len xs i hi, hp]
      have hf := hO.frozenAt i
      have hs := hO.stored i (.int .u32 (xs[i] : Int))
      rw [copied_set hp] at hs
      have HS := Lib.hid hs
      have HB := Lib.hid hB
      clear ha hgl hs hO hB
      go_wp2
      go_roundw
      case rel => exact ⟨i + 1, by go_num, by omega, HS.out.1, HB.out.grown HS.out.2 HB.out.size (fun k hk => by injection hk with hk; omega)⟩
      case measure => simp [intOf]; omega
    · obtain rfl : i = xs.length := by omega
      rw [copied_full] at hO
      go_wp2
      go_ret
      exact ⟨_, rfl, hO, hB⟩
end Go.Proofs.YtdiaiflleiebfaaGreatDoor

namespace Go.Proofs.YtdiaiflleiebfaaGreatDoor
open Go.RowKit Go

end Go.Proofs.YtdiaiflleiebfaaGreatDoor
