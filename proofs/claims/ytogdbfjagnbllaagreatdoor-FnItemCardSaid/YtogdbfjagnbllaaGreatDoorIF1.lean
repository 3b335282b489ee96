/-
  What the walks of this seat import.
  A block that is known whole: what it holds, and how it is kept.
  From a walk that ends in 'true' and 'nothing that was there has changed' to what a law's row says behind the call, at every program and every shape of the arguments.
  Lists of numbers of 32 bits: whether two are alike, a copy of one, the marks that are laid into one, whether they lie there.
  The forty-eight letters and their codes, as plain functions.
  Bits of numbers: masks and shifts as remainders and quotients.
  Which letter's code stands first in a text of bits, as a plain function.
  A letter comes back from its number and from its code, whatever bits stand behind it.
-/
import Derived.Test.YtogdbfjagnbllaaGreatDoorProg
import Derived.WalkKit
import Derived.WalkSpells
import Derived.WalkSmall
import Derived.Lib.Hide
import Derived.LoopTactic
import Derived.BigQuiet
import Derived.Deep.QuietTactic
import Derived.WalkMore
import Derived.ScopeJumps
import Derived.Below
import Derived.Deep.Draws
import Derived.Laws.Rows
import Derived.ProofKit
import Derived.LaidMore
import Derived.OpenShut
import Derived.Stop.Joined
import Derived.Sort.Grow
import Derived.OpenVars
import Derived.ChangeVars
import Derived.Deep.DrawnRows
import Derived.DataElems
import Derived.Lib.Bytealg
import Derived.Lib.IndexLaws
namespace Go.Proofs.YtogdbfjagnbllaaGreatDoor
theorem u8_le (c : UInt8) : c.toNat ≤ 255 := by have := c.toNat_lt; omega
theorem u8_ne {a b : UInt8} (h : a ≠ b) : ((a.toNat : Int) == (b.toNat : Int)) = false := by
  have h2 : a.toNat ≠ b.toNat := fun e => h (UInt8.toNat.inj e)
  simp
  omega
theorem u8_eq {a b : UInt8} (h : a = b) : ((a.toNat : Int) == (b.toNat : Int)) = true := by simp [h]
end Go.Proofs.YtogdbfjagnbllaaGreatDoor

namespace Go.Proofs.YtogdbfjagnbllaaGreatDoor
open Go.RowKit

/-- Block g is just these cells of one element type, none frozen. -/
def Blk (w : World) (g : Nat) (t : TypeId) (cs : Array Value) : Prop := w.heap[g]? = some (.cells cs t (0, 0))
section
variable {w w' : World} {g : Nat} {t : TypeId} {cs : Array Value}
theorem Blk.lt (h : Blk w g t cs) : g < w.heap.size := by
  rcases Nat.lt_or_ge g w.heap.size with hlt | hge
  · exact hlt
  · unfold Blk at h; rw [Array.getElem?_eq_none hge] at h; cases h
theorem Blk.cell (h : Blk w g t cs) (i : Nat) : w.cell? ⟨g, i, none⟩ = cs[i]? := cell_of_row w g i cs t (0, 0) h
theorem Blk.frozen (h : Blk w g t cs) (i : Nat) : w.frozen? ⟨g, i, none⟩ = false := by
  unfold Blk at h
  simp [World.frozen?, h]
theorem Blk.new (w : World) (t : TypeId) (cs : Array Value) : Blk (w.alloc (.cells cs t)) w.heap.size t cs := heap_alloc_new w _
theorem Blk.drew (h : Blk w g t cs) : Blk w.drew g t cs := h
theorem Blk.alloc (h : Blk w g t cs) (o : Obj) : Blk (w.alloc o) g t cs := (Below.heap_alloc w o g h.lt).trans h
theorem Blk.put (h : Blk w g t cs) (i : Nat) (u : Value) : Blk (w.setCell ⟨g, i, none⟩ u) g t (cs.setIfInBounds i u) := by
  unfold Blk at h ⊢
  simp [World.setCell, Array.getElem?_modify, h]
theorem Blk.far (h : Blk w g t cs) {p : Addr} (hp : g ≠ p.block) (u : Value) : Blk (w.setCell p u) g t cs := (Below.heap_setCell w p u g hp).trans h
theorem Blk.below {B : Nat} (h : Blk w g t cs) (hb : Below B w w') (hg : g < B) : Blk w' g t cs := (hb.block g hg).trans h
theorem Blk.grown {row : Option Nat} (h : Blk w g t cs) (hb : w.grownBy w' row) (hg : some g ≠ row) : Blk w' g t cs := (hb.block g h.lt hg).trans h
end
theorem only_drewN {a w : World} {row : Option Nat} (h : a.grownBy w row) (n : Nat) : a.grownBy (w.drewN n) row := ⟨h.os, h.tape, h.output, h.size, h.block⟩
theorem only_drew {a w : World} {row : Option Nat} (h : a.grownBy w row) : a.grownBy w.drew row := ⟨h.os, h.tape, h.output, h.size, h.block⟩
theorem only_alloc {a w : World} {row : Option Nat} (h : a.grownBy w row) (o : Obj) : a.grownBy (w.alloc o) row :=
  ⟨h.os, h.tape, h.output, Nat.le_trans h.size (by simp), fun i hi hne => (Below.heap_alloc w o i (Nat.lt_of_lt_of_le hi h.size)).trans (h.block i hi hne)⟩
theorem only_setCell {a w : World} {g : Nat} (h : a.grownBy w (some g)) {p : Addr} (hp : p.block = g ∨ a.heap.size ≤ p.block) (u : Value) : a.grownBy (w.setCell p u) (some g) :=
  ⟨h.os, h.tape, h.output, by simpa [World.setCell] using h.size, fun i hi hne => (Below.heap_setCell w p u i (by
    rintro rfl
    rcases hp with hp | hp
    · exact hne (by rw [hp])
    · omega)).trans (h.block i hi hne)⟩
theorem only_of_below {a w : World} (h : Below a.heap.size a w) (row : Option Nat) : a.grownBy w row := ⟨h.os, h.tape, h.output, h.size, fun i hi _ => h.block i hi⟩
theorem only_trans {a b c : World} {row : Option Nat} (h : a.grownBy b row) (k : b.grownBy c row) : a.grownBy c row :=
  ⟨k.os.trans h.os, k.tape.trans h.tape, k.output.trans h.output, Nat.le_trans h.size k.size, fun i hi hn => (k.block i (Nat.lt_of_lt_of_le hi h.size) hn).trans (h.block i hi hn)⟩
theorem below_of_only {a b : World} {g B : Nat} (h : a.grownBy b (some g)) (hB : B ≤ a.heap.size) (hg : B ≤ g) : Below B a b :=
  ⟨h.os, h.tape, h.output, h.size, fun k hk => h.block k (by omega) (fun e => by injection e with e; omega)⟩
end Go.Proofs.YtogdbfjagnbllaaGreatDoor

namespace Go.Proofs.YtogdbfjagnbllaaGreatDoor
open Go.ChangeShapes Go.WideShapes Go.ChangeAt Go.RowKit

theorem below_drewN {B : Nat} {a w : World} (h : Below B a w) (n : Nat) : Below B a (w.drewN n) := ⟨h.os, h.tape, h.output, h.size, h.block⟩
theorem below_grow {B : Nat} {a w : World} (h : Below B a w) (os : Array Obj) (hB : B ≤ w.heap.size) : Below B a (Go.Sort.grow w os) :=
  h.trans ⟨rfl, rfl, rfl, by simp [Go.Sort.grow], fun k hk => by show (w.heap ++ os)[k]? = _; rw [Array.getElem?_append_left (by omega)]⟩
theorem below_regrow (w : World) (k : Nat) (os : Array Obj) : Below w.heap.size w (Go.Sort.grow (w.drewN k) os) := below_grow (below_drewN (Below.refl _ _) k) os (by simp)
theorem bcell {W w1 : World} (hb : Below W.heap.size W w1) : (∀ b o, b < W.heap.size → w1.cell? ⟨b, o, none⟩ = W.cell? ⟨b, o, none⟩) ∧ (∀ b o, b < W.heap.size → w1.frozen? ⟨b, o, none⟩ = W.frozen? ⟨b, o, none⟩) :=
  ⟨fun b o h => hb.cell (p := ⟨b, o, none⟩) h, fun b o h => hb.frozen (p := ⟨b, o, none⟩) h⟩
theorem var?_below {P : Program} {W W' : World} {n : String} {cs : Array Value} (h : W.var? P n = some cs) (hb : Below W.heap.size W W') : W'.var? P n = some cs := by
  unfold World.var? at h ⊢
  cases hg : P.globalNamed n with
  | none => rw [hg] at h; simp at h
  | some g =>
    rw [hg] at h
    simp only [Option.bind_some] at h ⊢
    cases hw : W.heap[g]? with
    | none => rw [hw] at h; simp at h
    | some o => rw [hw] at h; rw [hb.block g (Array.getElem?_eq_some_iff.1 hw).1, hw]; exact h

theorem trodAll_below {H : Type} {enc : TypeId × Value → H} {P : Program} (hl : laidOutB P = true) {W W' : World} (hb : Below W.heap.size W W') :
    ∀ {ts : List TypeId} {vs : List Value} {ds : List (DataW H)} {ps : List MemPlace}, (ts.all fun t => P.readableRec t && decide (t < P.types.size)) = true → DataW.TrodAll enc P W 0 (fun _ => true) true ts vs ds ps → (∀ x ∈ ps, x.block < W.heap.size) →
      DataW.TrodAll enc P W' 0 (fun b => decide (b < W.heap.size)) true ts vs ds ps
  | [], [], [], _, _, h, _ => h
  | t :: ts, v :: vs, d :: ds, _, hr, ⟨p, q, h1, h2, e⟩, hlt => by
    simp only [List.all_cons, Bool.and_eq_true, decide_eq_true_eq] at hr
    subst e
    exact ⟨p, q, Below.trod hl hr.1.1 hr.1.2 h1 hb (fun x hx => hlt x (List.mem_append_left _ hx)), trodAll_below hl hb hr.2 h2 (fun x hx => hlt x (List.mem_append_right _ hx)), rfl⟩
  | [], _ :: _, _, _, _, h, _ => h.elim
  | [], [], _ :: _, _, _, h, _ => h.elim
  | _ :: _, [], _, _, _, h, _ => h.elim
  | _ :: _, _ :: _, [], _, _, h, _ => h.elim

/-- WHAT A LAW'S ROW ASKS BEHIND THE CALL, where it names package-level variables. -/
theorem law_postV {H : Type} {enc : TypeId × Value → H} {P : Program} {f : Func} {s : ChangeSpec} {W W' : World} {args : Array Value} {ds gs : List (DataW H)} {before : List MemPlace} {tb : TypeId}
    (hl : laidOutB P = true) (hread : (f.params.toList.all fun t => P.readableRec t && decide (t < P.types.size)) = true) (hvr : varsRowed P s.vars = true)
    (hW : DataW.Whole enc P f.params.toList s.vars false W args.toList ds gs before) (hb : Below W.heap.size W W')
    (hres : f.resultTypes = #[tb]) (htb : P.underlying tb = some .bool)
    (hfn : (s.fn H (ds ++ gs)).results = [.lit (.bool true)] ∧ (s.fn H (ds ++ gs)).args = ds ∧ (s.fn H (ds ++ gs)).vars = gs) :
    s.post enc P f false true false false W args (.bool true) W' := by
  obtain ⟨h1, h2, h3⟩ := hfn
  have hlt : ∀ p ∈ before, p.block < W.heap.size := fun p hp => hW.lt p hp
  have hW2 := hW
  obtain ⟨p, q, hA, hV, rfl, _, _⟩ := hW2
  refine ⟨ds, gs, p ++ q, [], p, q, hW, ?_, ?_, ?_, hb.frame _, fun h => by cases h⟩
  · rw [h1, hres]
    exact trodAll_mk1 (shut_bool htb _)
  · rw [h2]
    exact trodAll_below hl hb hread hA (fun x hx => hlt x (List.mem_append_left _ hx))
  · rw [h3]
    exact Below.trodVars hl hb hvr hV
theorem gs_one {H : Type} {enc : TypeId × Value → H} {P : Program} {w : World} {spare : Nat → Bool} {n : String} {gs : List (DataW H)} {ps : List MemPlace} (h : DataW.TrodVars enc P w spare [n] gs ps) : ∃ g, gs = [g] := by
  cases gs with
  | nil => exact h.elim
  | cons d ds =>
    obtain ⟨_, _, _, _, _, q, _, _, _, _, hs, _⟩ := h
    obtain ⟨rfl, -⟩ := trodVars_none hs
    exact ⟨d, rfl⟩
theorem gs_two {H : Type} {enc : TypeId × Value → H} {P : Program} {w : World} {spare : Nat → Bool} {n m : String} {gs : List (DataW H)} {ps : List MemPlace} (h : DataW.TrodVars enc P w spare [n, m] gs ps) : ∃ g k, gs = [g, k] := by
  cases gs with
  | nil => exact h.elim
  | cons d ds =>
    obtain ⟨_, _, _, _, _, q, _, _, _, _, hs, _⟩ := h
    obtain ⟨k, rfl⟩ := gs_one hs
    exact ⟨d, k, rfl⟩
theorem gs_three {H : Type} {enc : TypeId × Value → H} {P : Program} {w : World} {spare : Nat → Bool} {n m o : String} {gs : List (DataW H)} {ps : List MemPlace} (h : DataW.TrodVars enc P w spare [n, m, o] gs ps) : ∃ g k l, gs = [g, k, l] := by
  cases gs with
  | nil => exact h.elim
  | cons d ds =>
    obtain ⟨_, _, _, _, _, q, _, _, _, _, hs, _⟩ := h
    obtain ⟨k, l, rfl⟩ := gs_two hs
    exact ⟨d, k, l, rfl⟩

/-- WHAT A LAW'S ROW ASKS BEHIND THE CALL. -/
theorem law_post {H : Type} {enc : TypeId × Value → H} {P : Program} {f : Func} {s : ChangeSpec} {W W' : World} {args : Array Value} {ds gs : List (DataW H)} {before : List MemPlace} {tb : TypeId}
    (hl : laidOutB P = true) (hread : (f.params.toList.all fun t => P.readableRec t && decide (t < P.types.size)) = true)
    (hW : DataW.Whole enc P f.params.toList s.vars false W args.toList ds gs before) (hv : s.vars = []) (hb : Below W.heap.size W W')
    (hres : f.resultTypes = #[tb]) (htb : P.underlying tb = some .bool)
    (hfn : (s.fn H (ds ++ gs)).results = [.lit (.bool true)] ∧ (s.fn H (ds ++ gs)).args = ds ∧ (s.fn H (ds ++ gs)).vars = []) :
    s.post enc P f false true false false W args (.bool true) W' := by
  obtain ⟨h1, h2, h3⟩ := hfn
  have hlt : ∀ p ∈ before, p.block < W.heap.size := fun p hp => hW.lt p hp
  have hW2 := hW
  obtain ⟨p, q, hA, hV, rfl, _, _⟩ := hW2
  rw [hv] at hV
  obtain ⟨rfl, rfl⟩ := trodVars_none hV
  refine ⟨ds, [], p ++ [], [], p, [], hW, ?_, ?_, ?_, hb.frame _, fun h => by cases h⟩
  · rw [h1, hres]
    exact trodAll_mk1 (shut_bool htb _)
  · rw [h2]
    exact trodAll_below hl hb hread hA (fun x hx => hlt x (by simpa using hx))
  · rw [hv, h3]
    rfl
end Go.Proofs.YtogdbfjagnbllaaGreatDoor

namespace Go.Proofs.YtogdbfjagnbllaaGreatDoor
open Go.RowKit Go

def u32v (n : Nat) : Value := .int .u32 (n : Int)
/-- A list of numbers that can be read. -/
def RdN (w : World) (v : Value) (xs : List Nat) : Prop :=
  ∃ (A : Option Addr) (cap : Nat), v = .slice A xs.length cap ∧ xs.length ≤ 4611686018427387904 ∧ ∀ i (h : i < xs.length), ∃ a, A = some a ∧ a.block < w.heap.size ∧ w.cell? (a.add i) = some (u32v xs[i])
theorem addr_addb (a : Addr) (n : Nat) : (a.add n).block = a.block := by unfold Addr.add; split <;> rfl
theorem addr_lit (b o n : Nat) : Addr.add ⟨b, o, none⟩ n = ⟨b, o + n, none⟩ := by unfold Addr.add; split <;> simp_all
theorem RdN.keep {w w' : World} {v : Value} {xs : List Nat} (h : RdN w v xs) (hs : w.heap.size ≤ w'.heap.size) (hk : ∀ p : Addr, p.block < w.heap.size → (∃ a, v = .slice (some a) xs.length (match v with | .slice _ _ c => c | _ => 0) ∧ p.block = a.block) → w'.cell? p = w.cell? p) : RdN w' v xs := by
  obtain ⟨A, cap, rfl, hl, hc⟩ := h
  refine ⟨A, cap, rfl, hl, fun i hi => ?_⟩
  obtain ⟨a, rfl, e2, e3⟩ := hc i hi
  exact ⟨a, rfl, by omega, (hk _ (by rw [addr_addb]; exact e2) ⟨a, rfl, addr_addb _ _⟩).trans e3⟩
theorem RdN.below {w w' : World} {v : Value} {xs : List Nat} (h : RdN w v xs) (hb : Below w.heap.size w w') : RdN w' v xs := h.keep hb.size fun _ hp _ => hb.cell hp
theorem RdN.of_own {w : World} {base : Nat} {e : TypeId} {v : Value} {xs : List Nat} (h : w.ownsRow base e 1 v xs.length (xs.map u32v)) (hl : xs.length ≤ 4611686018427387904) : RdN w v xs := by
  rcases h.2 with ⟨rfl, h0⟩ | ⟨g, cap, cur, rfl, hb, hg, hn, hm, hsz, ht⟩
  · refine ⟨none, 0, by rw [h0], hl, fun i hi => by omega⟩
  · refine ⟨_, cap, rfl, hl, fun i hi => ⟨⟨g, 0, none⟩, rfl, (Array.getElem?_eq_some_iff.1 hg).1, ?_⟩⟩
    rw [addr_lit, Nat.zero_add, cell_of_row w g i cur e (0, 0) hg]
    have h1 := congrArg (·[i]?) ht
    simpa [List.getElem?_take, hi] using h1
theorem own_lt {W : World} {base : Nat} {e : TypeId} {size : Nat} {v : Value} {n : Nat} {xs : List Value} (h : W.ownsRow base e size v n xs) : ∀ k, v.ownBlock = some k → base ≤ k := fun k hk => by
  rcases h.2 with ⟨rfl, _⟩ | ⟨g, cap, cur, rfl, h1, _, _⟩
  · simp [Value.ownBlock] at hk
  · obtain rfl : g = k := by simpa [Value.ownBlock] using hk
    exact h1
theorem own_empty (w : World) (e : TypeId) : (w.alloc (.cells #[] e)).ownsRow w.heap.size e 1 (.slice (some ⟨w.heap.size, 0, none⟩) 0 0) 0 [] :=
  ⟨rfl, .inr ⟨w.heap.size, 0, #[], rfl, Nat.le_refl _, heap_alloc_new w _, Nat.le_refl _, Nat.zero_le _, rfl, rfl⟩⟩
/-- A new list of numbers. -/
def NewN (w : World) (xs : List Nat) (e : Ending) (w' : World) : Prop := ∃ v, e = .returned v ∧ w'.ownsRow w.heap.size 36 1 v xs.length (xs.map u32v) ∧ Below w.heap.size w w'
theorem u32_ne {a b : Nat} (h : a ≠ b) : ((a : Int) == (b : Int)) = false := by simp; omega
theorem u32_bne {a b : Nat} (h : a ≠ b) : ((a : Int) != (b : Int)) = true := by simp; omega
theorem u32_beq (a : Nat) : ((a : Int) != (a : Int)) = false := by simp

set_option maxHeartbeats 1000000 in
theorem eqn_any (a b : Value) (xs ys : List Nat) (w : World) (ha : RdN w a xs) (hb : RdN w b ys) :
    Calls Tryz.prog 24 #[a, b] w fun e w' => e = .returned (.bool (decide (xs = ys))) ∧ ∃ d, w' = w.drewN d := by
  obtain ⟨A, ca, rfl, hla, hca⟩ := ha
  obtain ⟨B, cb, rfl, hlb, hcb⟩ := hb
  have HA := Lib.hid hca
  have HB := Lib.hid hcb
  clear hca hcb
  by_cases hl : xs.length = ys.length
  · have hl' : ((xs.length : Int) != (ys.length : Int)) = false := by simp [hl]
    have HL := Lib.hid hl
    clear hl
    go_enter Tryz.func24, Tryz.ntmps24
    go_wp2
    go_loopw [5] (fun vi wr => ∃ i d : Nat, vi = .int .i64 i ∧ i ≤ xs.length ∧ Hid (wr = w.drewN d) ∧ Hid (∀ j (h : j < xs.length), j < i → ys[j]? = some xs[j])) (fun vi _ => xs.length - (intOf vi).toNat)
    case atStart => exact ⟨0, 0, rfl, by omega, by rw [World.drewN_zero]; rfl, fun j _ h => by omega⟩
    case round =>
      obtain ⟨i, d, rfl, hi, HW, HE⟩ := hrel
      by_cases hp : i < xs.length
      · obtain ⟨ga, rfl, -, ha⟩ := HA.out i hp
        obtain ⟨gb, rfl, -, hb⟩ := HB.out i (by have := HL.out; omega)
        have hcA : wr.cell? (ga.add i) = some (.int .u32 (xs[i] : Int)) := by rw [HW.out]; exact ha
        have hcB : wr.cell? (gb.add i) = some (.int .u32 ((ys[i]'(by have := HL.out; omega) : Nat) : Int)) := by rw [HW.out]; exact hb
        have i1 : (0 : Int) ≤ (i : Int) := by omega
        have i2 : (i : Int) < (xs.length : Int) := by omega
        have i3 : (i : Int) < (ys.length : Int) := by have := HL.out; omega
        clear ha hb
        by_cases he : xs[i] = ys[i]'(by have := HL.out; omega)
        · have HE2 : Hid (∀ j (h : j < xs.length), j < i + 1 → ys[j]? = some xs[j]) := Lib.hid fun j hj h2 => by
            rcases Nat.lt_or_ge j i with h3 | h3
            · exact HE.out j hj h3
            · obtain rfl : j = i := by omega
              rw [List.getElem?_eq_getElem (by omega), he]
          rw [← he] at hcB
          clear he
          go_wp2
          go_quiet (fail)
          go_wp2
          go_roundw
          case rel => exact ⟨i + 1, _, by go_num, by omega, by rw [HW.out, World.drewN_drewN]; rfl, HE2.out⟩
          case measure => simp [intOf]; omega
        · have hne := u32_bne he
          have hd : decide (xs = ys) = false := decide_eq_false fun e => he (by simp [e])
          have HD := Lib.hid hd
          clear he hd
          go_wp2
          go_quiet (fail)
          go_wp2
          go_ret
          exact ⟨by rw [HD.out]; rfl, _, by rw [HW.out, World.drewN_drewN]⟩
      · have hd : decide (xs = ys) = true := decide_eq_true (List.ext_getElem HL.out fun j h1 h2 => by
          have := HE.out j h1 (by omega)
          rw [List.getElem?_eq_getElem h2] at this
          exact (Option.some.inj this).symm)
        have HD := Lib.hid hd
        clear hd
        go_wp2
        go_ret
        exact ⟨by rw [HD.out]; rfl, d, HW.out⟩
  · have hl' : ((xs.length : Int) != (ys.length : Int)) = true := by simp; omega
    have e : decide (xs = ys) = false := by simpa using fun e => hl (by rw [e])
    rw [e]
    clear hl e
    go_enter Tryz.func24, Tryz.ntmps24
    go_wp2
    go_ret
    exact ⟨rfl, 0, by rw [World.drewN_zero]⟩

set_option maxHeartbeats 1000000 in
theorem samecells_any (a b : Value) (xs ys : List Nat) (w : World) (ha : RdN w a xs) (hb : RdN w b ys) :
    Calls Tryz.prog 12 #[a, b] w fun e w' => e = .returned (.bool (decide (xs = ys))) ∧ ∃ d, w' = w.drewN d := by
  obtain ⟨A, ca, rfl, hla, hca⟩ := ha
  obtain ⟨B, cb, rfl, hlb, hcb⟩ := hb
  have HA := Lib.hid hca
  have HB := Lib.hid hcb
  clear hca hcb
  by_cases hl : xs.length = ys.length
  · have hl' : ((xs.length : Int) != (ys.length : Int)) = false := by simp [hl]
    have HL := Lib.hid hl
    clear hl
    go_enter Tryz.func12, Tryz.ntmps12
    go_wp2
    go_loopw [5] (fun vi wr => ∃ i d : Nat, vi = .int .i64 i ∧ i ≤ xs.length ∧ Hid (wr = w.drewN d) ∧ Hid (∀ j (h : j < xs.length), j < i → ys[j]? = some xs[j])) (fun vi _ => xs.length - (intOf vi).toNat)
    case atStart => exact ⟨0, 0, rfl, by omega, by rw [World.drewN_zero]; rfl, fun j _ h => by omega⟩
    case round =>
      obtain ⟨i, d, rfl, hi, HW, HE⟩ := hrel
      by_cases hp : i < xs.length
      · obtain ⟨ga, rfl, -, ha⟩ := HA.out i hp
        obtain ⟨gb, rfl, -, hb⟩ := HB.out i (by have := HL.out; omega)
        have hcA : wr.cell? (ga.add i) = some (.int .u32 (xs[i] : Int)) := by rw [HW.out]; exact ha
        have hcB : wr.cell? (gb.add i) = some (.int .u32 ((ys[i]'(by have := HL.out; omega) : Nat) : Int)) := by rw [HW.out]; exact hb
        have i1 : (0 : Int) ≤ (i : Int) := by omega
        have i2 : (i : Int) < (xs.length : Int) := by omega
        have i3 : (i : Int) < (ys.length : Int) := by have := HL.out; omega
        clear ha hb
        by_cases he : xs[i] = ys[i]'(by have := HL.out; omega)
        · have HE2 : Hid (∀ j (h : j < xs.length), j < i + 1 → ys[j]? = some xs[j]) := Lib.hid fun j hj h2 => by
            rcases Nat.lt_or_ge j i with h3 | h3
            · exact HE.out j hj h3
            · obtain rfl : j = i := by omega
              rw [List.getElem?_eq_getElem (by omega), he]
          rw [← he] at hcB
          clear he
          go_wp2
          go_quiet (fail)
          go_wp2
          go_roundw
          case rel => exact ⟨i + 1, _, by go_num, by omega, by rw [HW.out, World.drewN_drewN]; rfl, HE2.out⟩
          case measure => simp [intOf]; omega
        · have hne := u32_bne he
          have hd : decide (xs = ys) = false := decide_eq_false fun e => he (by simp [e])
          have HD := Lib.hid hd
          clear he hd
          go_wp2
          go_quiet (fail)
          go_wp2
          go_ret
          exact ⟨by rw [HD.out]; rfl, _, by rw [HW.out, World.drewN_drewN]⟩
      · have hd : decide (xs = ys) = true := decide_eq_true (List.ext_getElem HL.out fun j h1 h2 => by
          have := HE.out j h1 (by omega)
          rw [List.getElem?_eq_getElem h2] at this
          exact (Option.some.inj this).symm)
        have HD := Lib.hid hd
        clear hd
        go_wp2
        go_ret
        exact ⟨by rw [HD.out]; rfl, d, HW.out⟩
  · have hl' : ((xs.length : Int) != (ys.length : Int)) = true := by simp; omega
    have e : decide (xs = ys) = false := by simpa using fun e => hl (by rw [e])
    rw [e]
    clear hl e
    go_enter Tryz.func12, Tryz.ntmps12
    go_wp2
    go_ret
    exact ⟨rfl, 0, by rw [World.drewN_zero]⟩

set_option maxHeartbeats 1000000 in
theorem l03same_any (a b : Value) (xs ys : List Nat) (w : World) (ha : RdN w a xs) (hb : RdN w b ys) :
    Calls Tryz.prog 137 #[a, b] w fun e w' => e = .returned (.bool (decide (xs = ys))) ∧ ∃ d, w' = w.drewN d := by
  obtain ⟨A, ca, rfl, hla, hca⟩ := ha
  obtain ⟨B, cb, rfl, hlb, hcb⟩ := hb
  have HA := Lib.hid hca
  have HB := Lib.hid hcb
  clear hca hcb
  by_cases hl : xs.length = ys.length
  · have hl' : ((xs.length : Int) != (ys.length : Int)) = false := by simp [hl]
    have HL := Lib.hid hl
    clear hl
    go_enter Tryz.func137, Tryz.ntmps137
    go_wp2
    go_loopw [5] (fun vi wr => ∃ i d : Nat, vi = .int .i64 i ∧ i ≤ xs.length ∧ Hid (wr = w.drewN d) ∧ Hid (∀ j (h : j < xs.length), j < i → ys[j]? = some xs[j])) (fun vi _ => xs.length - (intOf vi).toNat)
    case atStart => exact ⟨0, 0, rfl, by omega, by rw [World.drewN_zero]; rfl, fun j _ h => by omega⟩
    case round =>
      obtain ⟨i, d, rfl, hi, HW, HE⟩ := hrel
      by_cases hp : i < xs.length
      · obtain ⟨ga, rfl, -, ha⟩ := HA.out i hp
        obtain ⟨gb, rfl, -, hb⟩ := HB.out i (by have := HL.out; omega)
        have hcA : wr.cell? (ga.add i) = some (.int .u32 (xs[i] : Int)) := by rw [HW.out]; exact ha
        have hcB : wr.cell? (gb.add i) = some (.int .u32 ((ys[i]'(by have := HL.out; omega) : Nat) : Int)) := by rw [HW.out]; exact hb
        have i1 : (0 : Int) ≤ (i : Int) := by omega
        have i2 : (i : Int) < (xs.length : Int) := by omega
        have i3 : (i : Int) < (ys.length : Int) := by have := HL.out; omega
        clear ha hb
        by_cases he : xs[i] = ys[i]'(by have := HL.out; omega)
        · have HE2 : Hid (∀ j (h : j < xs.length), j < i + 1 → ys[j]? = some xs[j]) := Lib.hid fun j hj h2 => by
            rcases Nat.lt_or_ge j i with h3 | h3
            · exact HE.out j hj h3
            · obtain rfl : j = i := by omega
              rw [List.getElem?_eq_getElem (by omega), he]
          rw [← he] at hcB
          clear he
          go_wp2
          go_quiet (fail)
          go_wp2
          go_roundw
          case rel => exact ⟨i + 1, _, by go_num, by omega, by rw [HW.out, World.drewN_drewN]; rfl, HE2.out⟩
          case measure => simp [intOf]; omega
        · have hne := u32_bne he
          have hd : decide (xs = ys) = false := decide_eq_false fun e => he (by simp [e])
          have HD := Lib.hid hd
          clear he hd
          go_wp2
          go_quiet (fail)
          go_wp2
          go_ret
          exact ⟨by rw [HD.out]; rfl, _, by rw [HW.out, World.drewN_drewN]⟩
      · have hd : decide (xs = ys) = true := decide_eq_true (List.ext_getElem HL.out fun j h1 h2 => by
          have := HE.out j h1 (by omega)
          rw [List.getElem?_eq_getElem h2] at this
          exact (Option.some.inj this).symm)
        have HD := Lib.hid hd
        clear hd
        go_wp2
        go_ret
        exact ⟨by rw [HD.out]; rfl, d, HW.out⟩
  · have hl' : ((xs.length : Int) != (ys.length : Int)) = true := by simp; omega
    have e : decide (xs = ys) = false := by simpa using fun e => hl (by rw [e])
    rw [e]
    clear hl e
    go_enter Tryz.func137, Tryz.ntmps137
    go_wp2
    go_ret
    exact ⟨rfl, 0, by rw [World.drewN_zero]⟩

set_option maxHeartbeats 1000000 in
theorem slequal_any (a b : Value) (xs ys : List Nat) (w : World) (ha : RdN w a xs) (hb : RdN w b ys) :
    Calls Tryz.prog 92 #[a, b] w fun e w' => e = .returned (.bool (decide (xs = ys))) ∧ ∃ d, w' = w.drewN d := by
  obtain ⟨A, ca, rfl, hla, hca⟩ := ha
  obtain ⟨B, cb, rfl, hlb, hcb⟩ := hb
  have HA := Lib.hid hca
  have HB := Lib.hid hcb
  clear hca hcb
  by_cases hl : xs.length = ys.length
  · have hl' : ((xs.length : Int) != (ys.length : Int)) = false := by simp [hl]
    have HL := Lib.hid hl
    clear hl
    go_enter Tryz.func92, Tryz.ntmps92
    go_wp2
    go_loopw [13] (fun vi wr => ∃ i d : Nat, vi = .int .i64 i ∧ i ≤ xs.length ∧ Hid (wr = w.drewN d) ∧ Hid (∀ j (h : j < xs.length), j < i → ys[j]? = some xs[j])) (fun vi _ => xs.length - (intOf vi).toNat)
    case atStart => exact ⟨0, 0, rfl, by omega, by rw [World.drewN_zero]; rfl, fun j _ h => by omega⟩
    case round =>
      obtain ⟨i, d, rfl, hi, HW, HE⟩ := hrel
      by_cases hp : i < xs.length
      · obtain ⟨ga, rfl, -, ha⟩ := HA.out i hp
        obtain ⟨gb, rfl, -, hb⟩ := HB.out i (by have := HL.out; omega)
        have hcA : wr.cell? (ga.add i) = some (.int .u32 (xs[i] : Int)) := by rw [HW.out]; exact ha
        have hcB : wr.cell? (gb.add i) = some (.int .u32 ((ys[i]'(by have := HL.out; omega) : Nat) : Int)) := by rw [HW.out]; exact hb
        have i1 : (0 : Int) ≤ (i : Int) := by omega
        have i2 : (i : Int) < (xs.length : Int) := by omega
        have i3 : (i : Int) < (ys.length : Int) := by have := HL.out; omega
        clear ha hb
        by_cases he : xs[i] = ys[i]'(by have := HL.out; omega)
        · have HE2 : Hid (∀ j (h : j < xs.length), j < i + 1 → ys[j]? = some xs[j]) := Lib.hid fun j hj h2 => by
            rcases Nat.lt_or_ge j i with h3 | h3
            · exact HE.out j hj h3
            · obtain rfl : j = i := by omega
              rw [List.getElem?_eq_getElem (by omega), he]
          rw [← he] at hcB
          clear he
          go_wp2
          go_quiet (fail)
          go_wp2
          go_roundw
          case rel => exact ⟨i + 1, _, by go_num, by omega, by rw [HW.out, World.drewN_drewN]; rfl, HE2.out⟩
          case measure => simp [intOf]; omega
        · have hne := u32_bne he
          have hd : decide (xs = ys) = false := decide_eq_false fun e => he (by simp [e])
          have HD := Lib.hid hd
          clear he hd
          go_wp2
          go_quiet (fail)
          go_wp2
          go_ret
          exact ⟨by rw [HD.out]; rfl, _, by rw [HW.out, World.drewN_drewN]⟩
      · have hd : decide (xs = ys) = true := decide_eq_true (List.ext_getElem HL.out fun j h1 h2 => by
          have := HE.out j h1 (by omega)
          rw [List.getElem?_eq_getElem h2] at this
          exact (Option.some.inj this).symm)
        have HD := Lib.hid hd
        clear hd
        go_wp2
        go_ret
        exact ⟨by rw [HD.out]; rfl, d, HW.out⟩
  · have hl' : ((xs.length : Int) != (ys.length : Int)) = true := by simp; omega
    have e : decide (xs = ys) = false := by simpa using fun e => hl (by rw [e])
    rw [e]
    clear hl e
    go_enter Tryz.func92, Tryz.ntmps92
    go_wp2
    go_ret
    exact ⟨rfl, 0, by rw [World.drewN_zero]⟩

set_option maxHeartbeats 1000000 in
theorem heldn_any (v : Value) (xs : List Nat) (k : Nat) (h1 : k ≤ 4194304) (hx : xs.length ≤ 4194304) (w : World) (ha : RdN w v xs) :
    Calls Tryz.prog 27 #[v, .int .i64 k] w fun e w' => e = .returned (.int .i64 (if xs = (List.range xs.length).map (k + ·) then (k : Int) + xs.length else -1)) ∧ w = w' := by
  obtain ⟨A, ca, rfl, hla, hca⟩ := ha
  have HA := Lib.hid hca
  clear hca hla
  obtain ⟨q, hq⟩ : ∃ q, (if xs = (List.range xs.length).map (k + ·) then (k : Int) + xs.length else -1) = q := ⟨_, rfl⟩
  have HY : Hid ((∀ j (h : j < xs.length), xs[j] = k + j) → q = (k : Int) + xs.length) := Lib.hid fun h => by
    rw [← hq, if_pos]
    exact List.ext_getElem (by simp) fun j h2 h3 => by simpa using h j h2
  have HN : Hid (∀ j (h : j < xs.length), xs[j] ≠ k + j → q = -1) := Lib.hid fun j hj hne => by
    rw [← hq, if_neg]
    intro e
    refine hne ?_
    have : xs[j]? = ((List.range xs.length).map (k + ·))[j]? := by rw [← e]
    rw [List.getElem?_eq_getElem hj] at this
    simpa [hj] using this
  rw [hq]
  clear hq
  go_enter Tryz.func27, Tryz.ntmps27
  go_wp2
  go_loop [1, 5] (fun vk vi => ∃ i : Nat, vi = .int .i64 i ∧ vk = .int .i64 ((k + i : Nat) : Int) ∧ i ≤ xs.length ∧ Hid (∀ j (h : j < xs.length), j < i → xs[j] = k + j)) (fun _ vi => xs.length - (intOf vi).toNat)
  case atStart => exact ⟨0, rfl, rfl, by omega, Lib.hid fun j _ h => by omega⟩
  case round =>
    obtain ⟨i, rfl, rfl, hi, HE⟩ := hrel
    by_cases hp : i < xs.length
    · obtain ⟨ga, rfl, -, ha⟩ := HA.out i hp
      have hc : w.cell? (ga.add i) = some (.int .u32 (xs[i] : Int)) := ha
      have i2 : (i : Int) < (xs.length : Int) := by omega
      obtain ⟨x, hxx⟩ : ∃ x, xs[i] = x := ⟨_, rfl⟩
      rw [hxx] at hc
      by_cases he : x = k + i
      · have HE2 : Hid (∀ j (h : j < xs.length), j < i + 1 → xs[j] = k + j) := Lib.hid fun j hj h2 => by
          rcases Nat.lt_or_ge j i with h3 | h3
          · exact HE.out j hj h3
          · obtain rfl : j = i := by omega
            rw [hxx, he]
        have he' : ((x : Int) != ((k : Int) + (i : Int))) = false := by simp; omega
        clear ha hxx he
        go_wp2
        go_round
        case rel => exact ⟨i + 1, by go_num, by go_num, by omega, HE2⟩
        case measure => simp [intOf]; omega
      · have hQ := Lib.hid (HN.out i hp (by rw [hxx]; exact he))
        have he' : ((x : Int) != ((k : Int) + (i : Int))) = true := by simp; omega
        clear ha hxx he
        go_wp2
        go_ret
        exact ⟨by rw [hQ.out]; rfl, rfl⟩
    · have hQ := Lib.hid (HY.out fun j hj => HE.out j hj (by omega))
      obtain rfl : i = xs.length := by omega
      go_wp2
      go_ret
      exact ⟨by rw [hQ.out]; simp, rfl⟩

/-- n marks, from k on. -/
def marksN (k n : Nat) : List Nat := (List.range n).map (k + ·)
theorem marksN_len (k n : Nat) : (marksN k n).length = n := by simp [marksN]
theorem marksN_succ (k i : Nat) : marksN k (i + 1) = marksN k i ++ [k + i] := by unfold marksN; rw [List.range_succ]; simp
theorem marksN_set {xs : List Nat} {k i : Nat} (h : i < xs.length) : ((marksN k i ++ xs.drop i).map u32v).set i (.int .u32 ((k : Int) + (i : Int))) = (marksN k (i + 1) ++ xs.drop (i + 1)).map u32v := by
  have e : Value.int .u32 ((k : Int) + (i : Int)) = u32v (k + i) := by unfold u32v; push_cast; rfl
  rw [e, marksN_succ, List.map_append, List.map_append, List.set_append_right _ _ (by simp [marksN_len]), List.length_map, marksN_len, Nat.sub_self, List.drop_eq_getElem_cons h, List.map_cons, List.set_cons_zero]
  simp
/-- Where marking stands: block g holds i marks, then what it held. -/
structure MarkedN (W wr : World) (g : Nat) (n : Nat) (xs : List Nat) (k i : Nat) (cap : Nat) (cur : Array Value) : Prop where
  blk : Blk wr g 36 cur
  size : cur.size = cap
  take : cur.toList.take n = (marksN k i ++ xs.drop i).map u32v
  grown : W.grownBy wr (some g)
theorem MarkedN.step {W wr : World} {g : Nat} {xs : List Nat} {k i cap : Nat} {cur : Array Value} (h : MarkedN W wr g xs.length xs k i cap cur) (hi : i < xs.length) :
    MarkedN W (wr.setCell ⟨g, i, none⟩ (.int .u32 ((k : Int) + (i : Int)))) g xs.length xs k (i + 1) cap (cur.setIfInBounds i (.int .u32 ((k : Int) + (i : Int)))) := by
  refine ⟨h.blk.put _ _, by simpa using h.size, ?_, only_setCell h.grown (.inl rfl) _⟩
  rw [Array.toList_setIfInBounds, List.take_set, h.take, marksN_set hi]
theorem MarkedN.cell {W wr : World} {g n : Nat} {xs : List Nat} {k i cap : Nat} {cur : Array Value} (h : MarkedN W wr g n xs k i cap cur) (hi : i < cap) : ∃ u, wr.cell? ⟨g, i, none⟩ = some u ∧ wr.frozen? ⟨g, i, none⟩ = false := by
  have hs := h.size
  exact ⟨cur[i]'(by omega), by rw [h.blk.cell, Array.getElem?_eq_getElem (by omega)], h.blk.frozen i⟩

set_option maxHeartbeats 1000000 in
theorem markn_any (base : Nat) (v : Value) (xs : List Nat) (k : Nat) (h1 : k ≤ 4194304) (hx : xs.length ≤ 4194304) (W : World) (hown : W.ownsRow base 36 1 v xs.length (xs.map u32v)) :
    Calls Tryz.prog 26 #[v, .int .i64 k] W fun e w' => e = .returned (.int .i64 ((k : Int) + xs.length)) ∧ w'.ownsRow base 36 1 v xs.length ((marksN k xs.length).map u32v) ∧ W.grownBy w' v.ownBlock := by
  rcases hown.2 with ⟨rfl, hn0⟩ | ⟨g, cap, cur, rfl, hb, hg, hn, hm, hsz, ht⟩
  · have hxs : xs = [] := List.eq_nil_of_length_eq_zero hn0
    subst hxs
    clear hown
    go_enter Tryz.func26, Tryz.ntmps26
    go_wp2
    go_loop [1, 5] (fun vk vi => vk = .int .i64 k ∧ vi = .int .i64 0) (fun _ _ => 0)
    case atStart => exact ⟨rfl, rfl⟩
    case round =>
      obtain ⟨rfl, rfl⟩ := hrel
      go_wp2
      go_ret
      exact ⟨by simp, World.ownsRow_nil _ _ _ _, World.grownBy.refl _ _⟩
  · have hstart : MarkedN W W g xs.length xs k 0 cap cur := ⟨hg, by simpa using hsz, by simpa [marksN] using ht, World.grownBy.refl _ _⟩
    clear hown hsz ht hg
    unfold maxLen at hm
    go_enter Tryz.func26, Tryz.ntmps26
    go_wp2
    go_loopw [1, 5] (fun vk vi wr => ∃ (i : Nat) (cur : Array Value), vi = .int .i64 i ∧ vk = .int .i64 ((k + i : Nat) : Int) ∧ i ≤ xs.length ∧ MarkedN W wr g xs.length xs k i cap cur) (fun _ vi _ => xs.length - (intOf vi).toNat)
    case atStart => exact ⟨0, cur, rfl, rfl, by omega, hstart⟩
    case round =>
      obtain ⟨i, cur2, rfl, rfl, hi, hM⟩ := hrel
      clear hstart
      by_cases hp : i < xs.length
      · have i1 : (i : Int) < (xs.length : Int) := by omega
        obtain ⟨u, hcu, hfu⟩ := hM.cell (show i < cap by omega)
        go_wp2
        go_roundw
        case rel => exact ⟨i + 1, _, by go_num, by go_num, by omega, hM.step hp⟩
        case measure => simp [intOf]; omega
      · obtain rfl : i = xs.length := by omega
        go_wp2
        go_ret
        refine ⟨by simp, ⟨by simp [marksN_len], .inr ⟨g, cap, cur2, rfl, hb, hM.blk, hn, by unfold maxLen; omega, by simpa using hM.size, ?_⟩⟩, hM.grown⟩
        have := hM.take
        simpa using this
end Go.Proofs.YtogdbfjagnbllaaGreatDoor

namespace Go.Proofs.YtogdbfjagnbllaaGreatDoor

def lets : ByteArray := ⟨#[32, 114, 116, 111, 101, 97, 110, 105, 115, 109, 99, 121, 108, 103, 102, 119, 100, 118, 112, 98, 104, 120, 117, 113, 48, 49, 50, 51, 52, 53, 54, 55, 56, 57, 106, 45, 107, 46, 122, 47, 59, 39, 33, 43, 64, 42, 44, 63]⟩
theorem lets_size : lets.size = 48 := rfl
/-- The byte of a letter; 0 where there is none. -/
def letAt (k : Int) : Int := if 0 ≤ k ∧ k ≤ 47 then ((lets.data.toList.getD k.toNat 0).toNat : Int) else 0
/-- The number of a byte's letter; -1 where it is none. -/
def letOf (c : UInt8) : Int := Lib.indexByte lets.data.toList c
def widthOf (k : Int) : Int := if k < 0 then 0 else if k < 8 then 4 else if k < 16 then 5 else if k < 48 then 7 else 0
def bitsOf (k : Int) : Int := if k < 0 then 0 else if k < 8 then k else if k < 16 then k + 8 else if k < 48 then k + 80 else 0
theorem widthOf_nat {k : Nat} (h : k < 48) : ∃ d : Nat, widthOf (k : Int) = (d : Int) ∧ 4 ≤ d ∧ d ≤ 7 := by
  unfold widthOf
  by_cases h0 : k < 8
  · exact ⟨4, by rw [if_neg (by omega), if_pos (by omega)]; rfl, by omega, by omega⟩
  · by_cases h1 : k < 16
    · exact ⟨5, by rw [if_neg (by omega), if_neg (by omega), if_pos (by omega)]; rfl, by omega, by omega⟩
    · exact ⟨7, by rw [if_neg (by omega), if_neg (by omega), if_neg (by omega), if_pos (by omega)]; rfl, by omega, by omega⟩
theorem letAt_none {k : Int} (h : ¬ (0 ≤ k ∧ k ≤ 47)) : letAt k = 0 := by unfold letAt; rw [if_neg h]
theorem letAt_some {k : Nat} (h : k < 48) : letAt k = (lets[k]'(by rw [lets_size]; exact h)).toNat := by
  unfold letAt
  rw [if_pos (by omega)]
  have e : ((k : Int)).toNat = k := by omega
  rw [e, List.getD_eq_getElem?_getD, List.getElem?_eq_getElem (by show k < 48; exact h)]
  rfl
theorem letOf_range (c : UInt8) : -1 ≤ letOf c ∧ letOf c ≤ 47 := by
  have h := Lib.indexByte_ge lets.data.toList c
  refine ⟨h, ?_⟩
  rcases Int.lt_or_le (letOf c) 0 with h0 | h0
  · omega
  · obtain ⟨o, ho⟩ : ∃ o : Nat, letOf c = o := ⟨(letOf c).toNat, by omega⟩
    have h1 := (Lib.indexByte_some (show Lib.indexByte lets.data.toList c = o from ho)).1
    have h2 : o < lets.data.toList.length := (List.getElem?_eq_some_iff.1 h1).1
    have h3 : lets.data.toList.length = 48 := rfl
    omega
theorem letOf_first {c : UInt8} {k : Nat} (h : k < 48) (he : lets[k]'(by rw [lets_size]; exact h) = c) (hn : ∀ j (hj : j < k), lets[j]'(by rw [lets_size]; omega) ≠ c) : letOf c = k := by
  have hk : lets.data.toList[k]? = some c := by
    rw [List.getElem?_eq_getElem (by show k < 48; exact h)]
    exact congrArg some he
  rcases Int.lt_or_le (letOf c) 0 with h0 | h0
  · have : Lib.indexByte lets.data.toList c = -1 := by have := (letOf_range c).1; unfold letOf at *; omega
    exact absurd hk (Lib.indexByte_none this k)
  · obtain ⟨o, ho⟩ : ∃ o : Nat, letOf c = o := ⟨(letOf c).toNat, by omega⟩
    obtain ⟨h1, h2⟩ := Lib.indexByte_some (show Lib.indexByte lets.data.toList c = o from ho)
    have h3 : o < lets.data.toList.length := (List.getElem?_eq_some_iff.1 h1).1
    rw [ho]
    rcases Nat.lt_trichotomy o k with h4 | h4 | h4
    · exfalso
      rw [List.getElem?_eq_getElem h3] at h1
      exact hn o h4 (Option.some.inj h1)
    · rw [h4]
    · exact absurd hk (h2 k h4)
theorem letOf_none {c : UInt8} (hn : ∀ j (hj : j < 48), lets[j]'(by rw [lets_size]; exact hj) ≠ c) : letOf c = -1 := by
  rcases Int.lt_or_le (letOf c) 0 with h0 | h0
  · have := (letOf_range c).1; omega
  · obtain ⟨o, ho⟩ : ∃ o : Nat, letOf c = o := ⟨(letOf c).toNat, by omega⟩
    obtain ⟨h1, h2⟩ := Lib.indexByte_some (show Lib.indexByte lets.data.toList c = o from ho)
    have h3 : o < lets.data.toList.length := (List.getElem?_eq_some_iff.1 h1).1
    rw [List.getElem?_eq_getElem h3] at h1
    exact absurd (Option.some.inj h1) (hn o h3)
theorem letOf_zero {c : UInt8} (h : letOf c = 0) : c = 32 := by
  have h1 := (Lib.indexByte_some (show Lib.indexByte lets.data.toList c = ((0 : Nat) : Int) from h)).1
  exact (Option.some.inj h1).symm
theorem letOf_blank : letOf 32 = 0 := by decide
/-- Whether a byte is a name's. -/
def nameByte (c : UInt8) : Bool := decide (1 ≤ letOf c)
/-- Whether a text is a name. -/
def nameOk (s : ByteArray) : Bool := decide (1 ≤ s.size ∧ s.size ≤ 24 ∧ ∀ (i : Nat) (h : i < s.size), nameByte s[i] = true)
theorem nameOk_yes {s : ByteArray} (h0 : 1 ≤ s.size) (h1 : s.size ≤ 24) (h : ∀ (i : Nat) (h : i < s.size), nameByte s[i] = true) : nameOk s = true := decide_eq_true ⟨h0, h1, h⟩
theorem nameOk_no {s : ByteArray} {i : Nat} (hi : i < s.size) (h : nameByte s[i] = false) : nameOk s = false := decide_eq_false fun ⟨_, _, h2⟩ => by rw [h2 i hi] at h; cases h
theorem nameOk_size {s : ByteArray} (h : ¬ (1 ≤ s.size ∧ s.size ≤ 24)) : nameOk s = false := decide_eq_false fun ⟨h1, h2, _⟩ => h ⟨h1, h2⟩
end Go.Proofs.YtogdbfjagnbllaaGreatDoor

namespace Go.Proofs.YtogdbfjagnbllaaGreatDoor
open Go.RowKit Go

theorem bitsand_i64 (x y : Nat) (hx : x < 9223372036854775808) (hy : y < 9223372036854775808) : bits .and .i64 (x : Int) (y : Int) = ((x &&& y : Nat) : Int) := by
  have h : bits .and .i64 (x : Int) (y : Int) = IntKind.i64.wrap ((BitVec.ofInt 64 (x : Int) &&& BitVec.ofInt 64 (y : Int)).toNat : Int) := rfl
  have hle : x &&& y ≤ x := Nat.and_le_left
  rw [h, BitVec.toNat_and, BitVec.ofInt_natCast, BitVec.ofInt_natCast, BitVec.toNat_ofNat, BitVec.toNat_ofNat, Nat.mod_eq_of_lt (by omega), Nat.mod_eq_of_lt (by omega), IntKind.wrap_i64]
  omega
theorem bitsand_u32 (x y : Nat) (hx : x < 4294967296) (hy : y < 4294967296) : bits .and .u32 (x : Int) (y : Int) = ((x &&& y : Nat) : Int) := by
  have h : bits .and .u32 (x : Int) (y : Int) = IntKind.u32.wrap ((BitVec.ofInt 32 (x : Int) &&& BitVec.ofInt 32 (y : Int)).toNat : Int) := rfl
  have hle : x &&& y ≤ x := Nat.and_le_left
  rw [h, BitVec.toNat_and, BitVec.ofInt_natCast, BitVec.ofInt_natCast, BitVec.toNat_ofNat, BitVec.toNat_ofNat, Nat.mod_eq_of_lt (by omega), Nat.mod_eq_of_lt (by omega), IntKind.wrap_u32]
  omega
theorem bitsor_u32 (x y : Nat) (hx : x < 4294967296) (hy : y < 4294967296) : bits .or .u32 (x : Int) (y : Int) = ((x ||| y : Nat) : Int) := by
  have h : bits .or .u32 (x : Int) (y : Int) = IntKind.u32.wrap ((BitVec.ofInt 32 (x : Int) ||| BitVec.ofInt 32 (y : Int)).toNat : Int) := rfl
  have hle : x ||| y < 2 ^ 32 := Nat.or_lt_two_pow (by omega) (by omega)
  rw [h, BitVec.toNat_or, BitVec.ofInt_natCast, BitVec.ofInt_natCast, BitVec.toNat_ofNat, BitVec.toNat_ofNat, Nat.mod_eq_of_lt (by omega), Nat.mod_eq_of_lt (by omega), IntKind.wrap_u32]
  omega
/-- A mask of n ones. -/
theorem mask_i64 (x n : Nat) (hx : x < 9223372036854775808) (hn : n ≤ 62) : bits .and .i64 (x : Int) ((2 ^ n - 1 : Nat) : Int) = ((x % 2 ^ n : Nat) : Int) := by
  have h2 : 2 ^ n ≤ 2 ^ 62 := Nat.pow_le_pow_right (by decide) hn
  rw [bitsand_i64 x _ hx (by omega), Nat.and_two_pow_sub_one_eq_mod]
theorem mask_u32 (x n : Nat) (hx : x < 4294967296) (hn : n ≤ 32) : bits .and .u32 (x : Int) ((2 ^ n - 1 : Nat) : Int) = ((x % 2 ^ n : Nat) : Int) := by
  have h2 : 2 ^ n ≤ 2 ^ 32 := Nat.pow_le_pow_right (by decide) hn
  rw [bitsand_u32 x _ hx (by omega), Nat.and_two_pow_sub_one_eq_mod]
end Go.Proofs.YtogdbfjagnbllaaGreatDoor

namespace Go.Proofs.YtogdbfjagnbllaaGreatDoor
open Go.RowKit Go

/-- Whether the code of letter k stands first in the n lowest bits of x. -/
def codeAt (x n k : Nat) : Bool := decide ((widthOf k).toNat ≤ n ∧ (((x % 2 ^ n) / 2 ^ (n - (widthOf k).toNat) : Nat) : Int) = bitsOf k)
/-- The letter whose code stands first in the n lowest bits of x, and how many bits it has. -/
def decodeN (x n : Nat) : Int × Int := match (List.range 48).find? (codeAt x n) with
  | some k => ((k : Int), widthOf k)
  | none => (-1, 0)
def decode (x : Nat) (n : Int) : Int × Int := if 1 ≤ n ∧ n ≤ 32 then decodeN x n.toNat else (-1, 0)
theorem codeAt_iff {x n k d : Nat} {b : Int} (hd : widthOf (k : Int) = (d : Int)) (hb : bitsOf (k : Int) = b) : codeAt x n k = decide (d ≤ n ∧ ((x % 2 ^ n / 2 ^ (n - d) : Nat) : Int) = b) := by
  unfold codeAt
  rw [hd, hb]
  rfl
theorem codeAt_true {x n k d : Nat} {b t : Int} (hd : widthOf (k : Int) = (d : Int)) (hb : bitsOf (k : Int) = b) (h1 : d ≤ n) (ht : t = ((x % 2 ^ n / 2 ^ (n - d) : Nat) : Int)) (h2 : t = b) : codeAt x n k = true := by
  rw [codeAt_iff hd hb, ← ht]
  exact decide_eq_true ⟨h1, h2⟩
theorem codeAt_false {x n k d : Nat} {b t : Int} (hd : widthOf (k : Int) = (d : Int)) (hb : bitsOf (k : Int) = b) (ht : t = ((x % 2 ^ n / 2 ^ (n - d) : Nat) : Int)) (h2 : t ≠ b) : codeAt x n k = false := by
  rw [codeAt_iff hd hb, ← ht]
  exact decide_eq_false fun h => h2 h.2
theorem codeAt_short {x n k d : Nat} (hd : widthOf (k : Int) = (d : Int)) (h : ¬ d ≤ n) : codeAt x n k = false := by
  rw [codeAt_iff hd rfl]
  exact decide_eq_false fun h2 => h h2.1
theorem find_first {p : Nat → Bool} {m k : Nat} (hk : k < m) (h : p k = true) (hn : ∀ j, j < k → p j = false) : (List.range m).find? p = some k := by
  rw [List.find?_eq_some_iff_getElem]
  refine ⟨h, k, by simpa using hk, by simp, fun j hj => ?_⟩
  have h1 := hn j hj
  simp [h1]
theorem find_none {p : Nat → Bool} {m : Nat} (hn : ∀ j, j < m → p j = false) : (List.range m).find? p = none := by
  rw [List.find?_eq_none]
  intro x hx
  have h1 := hn x (by simpa using hx)
  simp [h1]
theorem decodeN_some {x n k : Nat} (hk : k < 48) (h : codeAt x n k = true) (hn : ∀ j, j < k → codeAt x n j = false) : decodeN x n = ((k : Int), widthOf k) := by
  unfold decodeN
  rw [find_first hk h hn]
theorem decodeN_none {x n : Nat} (hn : ∀ j, j < 48 → codeAt x n j = false) : decodeN x n = (-1, 0) := by
  unfold decodeN
  rw [find_none hn]
/-- The highest bits of a text that was pushed to the top are its first bits. -/
theorem top_bits (x n w : Nat) (hn : n ≤ 32) (hw : w ≤ n) : (x * 2 ^ (32 - n)) % 4294967296 / 2 ^ (32 - w) = (x % 2 ^ n) / 2 ^ (n - w) := by
  have e1 : (4294967296 : Nat) = 2 ^ n * 2 ^ (32 - n) := by
    rw [← Nat.pow_add, show n + (32 - n) = 32 by omega]
  have e2 : (2 : Nat) ^ (32 - w) = 2 ^ (32 - n) * 2 ^ (n - w) := by rw [← Nat.pow_add, show 32 - n + (n - w) = 32 - w by omega]
  rw [e1, Nat.mul_mod_mul_right, e2, ← Nat.div_div_eq_div_mul, Nat.mul_div_cancel _ (Nat.two_pow_pos _)]
theorem cast_top (x a b C : Nat) : (x : Int) * 2 ^ a % (C : Int) / 2 ^ b = ((x * 2 ^ a % C / 2 ^ b : Nat) : Int) := by
  push_cast
  rfl
theorem top_int (x n w : Nat) (hn : n ≤ 32) (hw : w ≤ n) : (x : Int) * 2 ^ (32 - n) % 4294967296 / 2 ^ (32 - w) = ((x % 2 ^ n / 2 ^ (n - w) : Nat) : Int) := by
  rw [← top_bits x n w hn hw]
  exact cast_top x (32 - n) (32 - w) 4294967296
theorem wrap_mask (n : Nat) (hn : n ≤ 62) : wrap64 (wrap64 ((2 : Int) ^ n) - 1) = ((2 ^ n - 1 : Nat) : Int) := by
  have h2 : 2 ^ n ≤ 2 ^ 62 := Nat.pow_le_pow_right (by decide) hn
  have h1 : 1 ≤ 2 ^ n := Nat.one_le_two_pow
  have e : ((2 : Int) ^ n) = ((2 ^ n : Nat) : Int) := by push_cast; rfl
  rw [e]
  unfold wrap64
  omega
theorem mask_int (x n w : Nat) (hx : x < 4294967296) (hn : n ≤ 32) : bits .and .i64 (x : Int) (wrap64 (wrap64 ((2 : Int) ^ n) - 1)) / 2 ^ (n - w) = ((x % 2 ^ n / 2 ^ (n - w) : Nat) : Int) := by
  rw [wrap_mask n (by omega), mask_i64 x n (by omega) (by omega)]
  push_cast
  rfl
end Go.Proofs.YtogdbfjagnbllaaGreatDoor

namespace Go.Proofs.YtogdbfjagnbllaaGreatDoor
open Go.RowKit Go

theorem back_all : ∀ k : Nat, k < 48 → letOf (UInt8.ofNat (letAt (k : Int)).toNat) = (k : Int) ∧ 0 ≤ letAt (k : Int) ∧ letAt (k : Int) ≤ 255 := by decide +kernel
theorem letAt_back {k : Nat} (h : k < 48) : ∃ c : UInt8, letAt (k : Int) = (c.toNat : Int) ∧ letOf c = (k : Int) := by
  obtain ⟨h1, h2, h3⟩ := back_all k h
  refine ⟨_, ?_, h1⟩
  rw [UInt8.toNat_ofNat_of_lt' (by show _ < 256; omega)]
  omega
def wN (k : Nat) : Nat := (widthOf (k : Int)).toNat
def bN (k : Nat) : Nat := (bitsOf (k : Int)).toNat
theorem code_apart : ∀ k : Nat, k < 48 → bN k < 2 ^ wN k ∧ ((bN k : Nat) : Int) = bitsOf (k : Int) ∧ ∀ j : Nat, j < k → wN j ≤ wN k ∧ ((bN k / 2 ^ (wN k - wN j) : Nat) : Int) ≠ bitsOf (j : Int) := by decide +kernel
theorem code_front (k rest r : Nat) (hk : k < 48) (hr : r < 2 ^ rest) : decodeN (bN k * 2 ^ rest + r) (wN k + rest) = ((k : Int), widthOf k) := by
  obtain ⟨h1, h2, h3⟩ := code_apart k hk
  have hlt : bN k * 2 ^ rest + r < 2 ^ (wN k + rest) := by
    rw [Nat.pow_add]
    calc bN k * 2 ^ rest + r < bN k * 2 ^ rest + 2 ^ rest := by omega
      _ = (bN k + 1) * 2 ^ rest := by rw [Nat.add_mul, Nat.one_mul]
      _ ≤ 2 ^ wN k * 2 ^ rest := Nat.mul_le_mul_right _ h1
  have hq : (bN k * 2 ^ rest + r) / 2 ^ rest = bN k := by
    rw [Nat.mul_comm, Nat.mul_add_div (Nat.two_pow_pos _), Nat.div_eq_of_lt hr]
    rfl
  refine decodeN_some hk ?_ fun j hj => ?_
  · unfold codeAt
    rw [Nat.mod_eq_of_lt hlt]
    refine decide_eq_true ⟨Nat.le_add_right _ _, ?_⟩
    rw [show wN k + rest - (widthOf (k : Int)).toNat = rest from Nat.add_sub_cancel_left _ _, hq, h2]
  · obtain ⟨h4, h5⟩ := h3 j hj
    unfold codeAt
    rw [Nat.mod_eq_of_lt hlt]
    refine decide_eq_false fun ⟨_, h6⟩ => h5 ?_
    rw [← h6, show wN k + rest - (widthOf (j : Int)).toNat = rest + (wN k - wN j) by show wN k + rest - wN j = _; omega, Nat.pow_add, ← Nat.div_div_eq_div_mul, hq]
theorem or_front (b rest r : Nat) (hr : r < 2 ^ rest) : (b * 2 ^ rest) ||| r = b * 2 ^ rest + r := by
  rw [Nat.mul_comm, ← Nat.two_pow_add_eq_or_of_lt hr]
theorem front_bits (b m rest : Nat) (hb : b ≤ 127) (hm : m < 4294967296) (hr : rest ≤ 20) :
    bits .or .u32 ((b : Int) * 2 ^ rest % 4294967296) (bits .and .u32 (m : Int) ((2 ^ rest - 1) % 4294967296)) = ((b * 2 ^ rest + m % 2 ^ rest : Nat) : Int) := by
  have h1 : 2 ^ rest ≤ 2 ^ 20 := Nat.pow_le_pow_right (by decide) hr
  have h0 : 1 ≤ 2 ^ rest := Nat.one_le_two_pow
  have h2 : b * 2 ^ rest ≤ 127 * 2 ^ 20 := Nat.mul_le_mul hb h1
  have e1 : (b : Int) * 2 ^ rest % 4294967296 = ((b * 2 ^ rest : Nat) : Int) := by
    have e : (b : Int) * 2 ^ rest = ((b * 2 ^ rest : Nat) : Int) := by push_cast; rfl
    rw [e]
    omega
  have e2 : ((2 : Int) ^ rest - 1) % 4294967296 = ((2 ^ rest - 1 : Nat) : Int) := by
    have e : (2 : Int) ^ rest = ((2 ^ rest : Nat) : Int) := by push_cast; rfl
    rw [e]
    omega
  have h3 : m % 2 ^ rest < 2 ^ rest := Nat.mod_lt _ h0
  rw [e1, e2, mask_u32 m rest hm (by omega), bitsor_u32 _ _ (by omega) (by omega), or_front b rest _ h3]
end Go.Proofs.YtogdbfjagnbllaaGreatDoor
