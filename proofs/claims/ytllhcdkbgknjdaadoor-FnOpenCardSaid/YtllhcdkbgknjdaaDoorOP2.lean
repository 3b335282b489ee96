/-
  BitsOf of the model answers a letter's code.
  A block that is known whole: what it holds, and how it is kept.
  Lists of numbers of 32 bits: whether two are alike, a copy of one, the marks that are laid into one, whether they lie there.
  As many first letters as fit are packed into one field, by the program and by its model.
  A copy of a list of numbers of 32 bits.
  Pack of the model answers a new list: the fields of a name.
  Pack of the program, whatever its tables hold: as many fields as the name has.
  Items and their cells, as plain functions: the cells of an item, the first item of cells, all items of cells.
-/
import Derived.Test.YtllhcdkbgknjdaaDoorOP1
import Derived.WalkKit
import Derived.Below
import Derived.Deep.Draws
import Derived.Laws.Rows
import Derived.Deep.DrawnRows
import Derived.DataElems
import Derived.Laws.IdiomStrings
import Derived.Laws.AppendOwn
import Derived.OwnWalk
namespace Go.Proofs.YtllhcdkbgknjdaaDoor
open Go.RowKit

theorem bitsOf_range (k : Int) : 0 ≤ bitsOf k ∧ bitsOf k ≤ 127 := by
  unfold bitsOf
  by_cases h0 : k < 0
  · rw [if_pos h0]; omega
  · rw [if_neg h0]
    by_cases h1 : k < 8
    · rw [if_pos h1]; omega
    · rw [if_neg h1]
      by_cases h2 : k < 16
      · rw [if_pos h2]; omega
      · rw [if_neg h2]
        by_cases h3 : k < 48
        · rw [if_pos h3]; omega
        · rw [if_neg h3]; omega

theorem spec_bitsof (k : Int) (w : World) : Calls Tryd.prog 96 #[.int .i64 k] w fun e w' => e = .returned (.int .u32 (bitsOf k)) ∧ w = w' := by
  have HW := Lib.hid (spec_widthof k w)
  have four : widthOf k = 0 ∨ widthOf k = 4 ∨ widthOf k = 5 ∨ widthOf k = 7 := by
    unfold widthOf
    split
    · exact .inl rfl
    · split
      · exact .inr (.inl rfl)
      · split
        · exact .inr (.inr (.inl rfl))
        · split
          · exact .inr (.inr (.inr rfl))
          · exact .inl rfl
  have both : (widthOf k = 0 → bitsOf k = 0) ∧ (widthOf k = 4 → 0 ≤ k ∧ k < 8 ∧ bitsOf k = k) ∧ (widthOf k = 5 → 8 ≤ k ∧ k < 16 ∧ bitsOf k = k + 8) ∧ (widthOf k = 7 → 16 ≤ k ∧ k < 48 ∧ bitsOf k = k + 80) := by
    unfold widthOf bitsOf
    split
    · simp
    · split
      · simp; omega
      · split
        · simp; omega
        · split
          · simp; omega
          · simp
  rcases four with h | h | h | h
  · rw [both.1 h]
    rw [h] at HW
    clear both h
    go_enter Tryd.func96, Tryd.ntmps96
    go_wp2_with fail
    refine HW.out.mono ?_
    rintro e w' ⟨rfl, rfl⟩
    go_wp2_with fail
    go_ret
    exact ⟨rfl, rfl⟩
  · obtain ⟨h5, h6, h7⟩ := both.2.1 h
    rw [h7]
    rw [h] at HW
    clear both h h7
    go_enter Tryd.func96, Tryd.ntmps96
    go_wp2_with fail
    refine HW.out.mono ?_
    rintro e w' ⟨rfl, rfl⟩
    go_wp2_with fail
    go_ret
    exact ⟨rfl, rfl⟩
  · obtain ⟨h5, h6, h7⟩ := both.2.2.1 h
    rw [h7]
    rw [h] at HW
    clear both h h7
    go_enter Tryd.func96, Tryd.ntmps96
    go_wp2_with fail
    refine HW.out.mono ?_
    rintro e w' ⟨rfl, rfl⟩
    go_wp2_with fail
    go_ret
    exact ⟨rfl, rfl⟩
  · obtain ⟨h5, h6, h7⟩ := both.2.2.2 h
    rw [h7]
    rw [h] at HW
    clear both h h7
    go_enter Tryd.func96, Tryd.ntmps96
    go_wp2_with fail
    refine HW.out.mono ?_
    rintro e w' ⟨rfl, rfl⟩
    go_wp2_with fail
    go_ret
    exact ⟨rfl, rfl⟩
end Go.Proofs.YtllhcdkbgknjdaaDoor

namespace Go.Proofs.YtllhcdkbgknjdaaDoor
open Go.RowKit

/-- Block g is just these cells of one element type, none frozen. -/
def Blk (w : World) (g : Nat) (t : TypeId) (cs : Array Value) : Prop := w.heap[g]? = some (.cells cs t (0, 0))
section
variable {w w' : World} {g : Nat} {t : TypeId} {cs : Array Value}
theorem Blk.lt (h : Blk w g t cs) : g < w.heap.size := by
  rcases Nat.lt_or_ge g w.heap.size with hlt | hge
  · exact hlt
  · unfold Blk at h; rw [Array.getElem?_eq_none hge] at h; cases h
theorem Blk.cell (h : Blk w g t cs) (i : Nat) : w.cell? ⟨g, i, none⟩ = cs[i]? := cell_of_row w g i cs t (0, 0) h
theorem Blk.frozen (h : Blk w g t cs) (i : Nat) : w.frozen? ⟨g, i, none⟩ = false := by
  unfold Blk at h
  simp [World.frozen?, h]
theorem Blk.new (w : World) (t : TypeId) (cs : Array Value) : Blk (w.alloc (.cells cs t)) w.heap.size t cs := heap_alloc_new w _
theorem Blk.drew (h : Blk w g t cs) : Blk w.drew g t cs := h
theorem Blk.alloc (h : Blk w g t cs) (o : Obj) : Blk (w.alloc o) g t cs := (Below.heap_alloc w o g h.lt).trans h
theorem Blk.put (h : Blk w g t cs) (i : Nat) (u : Value) : Blk (w.setCell ⟨g, i, none⟩ u) g t (cs.setIfInBounds i u) := by
  unfold Blk at h ⊢
  simp [World.setCell, Array.getElem?_modify, h]
theorem Blk.far (h : Blk w g t cs) {p : Addr} (hp : g ≠ p.block) (u : Value) : Blk (w.setCell p u) g t cs := (Below.heap_setCell w p u g hp).trans h
theorem Blk.below {B : Nat} (h : Blk w g t cs) (hb : Below B w w') (hg : g < B) : Blk w' g t cs := (hb.block g hg).trans h
theorem Blk.grown {row : Option Nat} (h : Blk w g t cs) (hb : w.grownBy w' row) (hg : some g ≠ row) : Blk w' g t cs := (hb.block g h.lt hg).trans h
end
theorem only_drewN {a w : World} {row : Option Nat} (h : a.grownBy w row) (n : Nat) : a.grownBy (w.drewN n) row := ⟨h.os, h.tape, h.output, h.size, h.block⟩
theorem only_drew {a w : World} {row : Option Nat} (h : a.grownBy w row) : a.grownBy w.drew row := ⟨h.os, h.tape, h.output, h.size, h.block⟩
theorem only_alloc {a w : World} {row : Option Nat} (h : a.grownBy w row) (o : Obj) : a.grownBy (w.alloc o) row :=
  ⟨h.os, h.tape, h.output, Nat.le_trans h.size (by simp), fun i hi hne => (Below.heap_alloc w o i (Nat.lt_of_lt_of_le hi h.size)).trans (h.block i hi hne)⟩
theorem only_setCell {a w : World} {g : Nat} (h : a.grownBy w (some g)) {p : Addr} (hp : p.block = g ∨ a.heap.size ≤ p.block) (u : Value) : a.grownBy (w.setCell p u) (some g) :=
  ⟨h.os, h.tape, h.output, by simpa [World.setCell] using h.size, fun i hi hne => (Below.heap_setCell w p u i (by
    rintro rfl
    rcases hp with hp | hp
    · exact hne (by rw [hp])
    · omega)).trans (h.block i hi hne)⟩
theorem only_of_below {a w : World} (h : Below a.heap.size a w) (row : Option Nat) : a.grownBy w row := ⟨h.os, h.tape, h.output, h.size, fun i hi _ => h.block i hi⟩
theorem only_trans {a b c : World} {row : Option Nat} (h : a.grownBy b row) (k : b.grownBy c row) : a.grownBy c row :=
  ⟨k.os.trans h.os, k.tape.trans h.tape, k.output.trans h.output, Nat.le_trans h.size k.size, fun i hi hn => (k.block i (Nat.lt_of_lt_of_le hi h.size) hn).trans (h.block i hi hn)⟩
theorem below_of_only {a b : World} {g B : Nat} (h : a.grownBy b (some g)) (hB : B ≤ a.heap.size) (hg : B ≤ g) : Below B a b :=
  ⟨h.os, h.tape, h.output, h.size, fun k hk => h.block k (by omega) (fun e => by injection e with e; omega)⟩
end Go.Proofs.YtllhcdkbgknjdaaDoor

namespace Go.Proofs.YtllhcdkbgknjdaaDoor
open Go.RowKit Go

def u32v (n : Nat) : Value := .int .u32 (n : Int)
/-- A list of numbers that can be read. -/
def RdN (w : World) (v : Value) (xs : List Nat) : Prop :=
  ∃ (A : Option Addr) (cap : Nat), v = .slice A xs.length cap ∧ xs.length ≤ 4611686018427387904 ∧ ∀ i (h : i < xs.length), ∃ a, A = some a ∧ a.block < w.heap.size ∧ w.cell? (a.add i) = some (u32v xs[i])
theorem addr_addb (a : Addr) (n : Nat) : (a.add n).block = a.block := by unfold Addr.add; split <;> rfl
theorem addr_lit (b o n : Nat) : Addr.add ⟨b, o, none⟩ n = ⟨b, o + n, none⟩ := by unfold Addr.add; split <;> simp_all
theorem RdN.keep {w w' : World} {v : Value} {xs : List Nat} (h : RdN w v xs) (hs : w.heap.size ≤ w'.heap.size) (hk : ∀ p : Addr, p.block < w.heap.size → (∃ a, v = .slice (some a) xs.length (match v with | .slice _ _ c => c | _ => 0) ∧ p.block = a.block) → w'.cell? p = w.cell? p) : RdN w' v xs := by
  obtain ⟨A, cap, rfl, hl, hc⟩ := h
  refine ⟨A, cap, rfl, hl, fun i hi => ?_⟩
  obtain ⟨a, rfl, e2, e3⟩ := hc i hi
  exact ⟨a, rfl, by omega, (hk _ (by rw [addr_addb]; exact e2) ⟨a, rfl, addr_addb _ _⟩).trans e3⟩
theorem RdN.below {w w' : World} {v : Value} {xs : List Nat} (h : RdN w v xs) (hb : Below w.heap.size w w') : RdN w' v xs := h.keep hb.size fun _ hp _ => hb.cell hp
theorem RdN.of_own {w : World} {base : Nat} {e : TypeId} {v : Value} {xs : List Nat} (h : w.ownsRow base e 1 v xs.length (xs.map u32v)) (hl : xs.length ≤ 4611686018427387904) : RdN w v xs := by
  rcases h.2 with ⟨rfl, h0⟩ | ⟨g, cap, cur, rfl, hb, hg, hn, hm, hsz, ht⟩
  · refine ⟨none, 0, by rw [h0], hl, fun i hi => by omega⟩
  · refine ⟨_, cap, rfl, hl, fun i hi => ⟨⟨g, 0, none⟩, rfl, (Array.getElem?_eq_some_iff.1 hg).1, ?_⟩⟩
    rw [addr_lit, Nat.zero_add, cell_of_row w g i cur e (0, 0) hg]
    have h1 := congrArg (·[i]?) ht
    simpa [List.getElem?_take, hi] using h1
theorem own_lt {W : World} {base : Nat} {e : TypeId} {size : Nat} {v : Value} {n : Nat} {xs : List Value} (h : W.ownsRow base e size v n xs) : ∀ k, v.ownBlock = some k → base ≤ k := fun k hk => by
  rcases h.2 with ⟨rfl, _⟩ | ⟨g, cap, cur, rfl, h1, _, _⟩
  · simp [Value.ownBlock] at hk
  · obtain rfl : g = k := by simpa [Value.ownBlock] using hk
    exact h1
theorem own_empty (w : World) (e : TypeId) : (w.alloc (.cells #[] e)).ownsRow w.heap.size e 1 (.slice (some ⟨w.heap.size, 0, none⟩) 0 0) 0 [] :=
  ⟨rfl, .inr ⟨w.heap.size, 0, #[], rfl, Nat.le_refl _, heap_alloc_new w _, Nat.le_refl _, Nat.zero_le _, rfl, rfl⟩⟩
/-- A new list of numbers. -/
def NewN (w : World) (xs : List Nat) (e : Ending) (w' : World) : Prop := ∃ v, e = .returned v ∧ w'.ownsRow w.heap.size 51 1 v xs.length (xs.map u32v) ∧ Below w.heap.size w w'
theorem u32_ne {a b : Nat} (h : a ≠ b) : ((a : Int) == (b : Int)) = false := by simp; omega
theorem u32_bne {a b : Nat} (h : a ≠ b) : ((a : Int) != (b : Int)) = true := by simp; omega
theorem u32_beq (a : Nat) : ((a : Int) != (a : Int)) = false := by simp

set_option maxHeartbeats 1000000 in
theorem eqn_any (a b : Value) (xs ys : List Nat) (w : World) (ha : RdN w a xs) (hb : RdN w b ys) :
    Calls Tryd.prog 21 #[a, b] w fun e w' => e = .returned (.bool (decide (xs = ys))) ∧ ∃ d, w' = w.drewN d := by
  obtain ⟨A, ca, rfl, hla, hca⟩ := ha
  obtain ⟨B, cb, rfl, hlb, hcb⟩ := hb
  have HA := Lib.hid hca
  have HB := Lib.hid hcb
  clear hca hcb
  by_cases hl : xs.length = ys.length
  · have hl' : ((xs.length : Int) != (ys.length : Int)) = false := by simp [hl]
    have HL := Lib.hid hl
    clear hl
    go_enter Tryd.func21, Tryd.ntmps21
    go_wp2
    go_loopw [5] (fun vi wr => ∃ i d : Nat, vi = .int .i64 i ∧ i ≤ xs.length ∧ Hid (wr = w.drewN d) ∧ Hid (∀ j (h : j < xs.length), j < i → ys[j]? = some xs[j])) (fun vi _ => xs.length - (intOf vi).toNat)
    case atStart => exact ⟨0, 0, rfl, by omega, by rw [World.drewN_zero]; rfl, fun j _ h => by omega⟩
    case round =>
      obtain ⟨i, d, rfl, hi, HW, HE⟩ := hrel
      by_cases hp : i < xs.length
      · obtain ⟨ga, rfl, -, ha⟩ := HA.out i hp
        obtain ⟨gb, rfl, -, hb⟩ := HB.out i (by have := HL.out; omega)
        have hcA : wr.cell? (ga.add i) = some (.int .u32 (xs[i] : Int)) := by rw [HW.out]; exact ha
        have hcB : wr.cell? (gb.add i) = some (.int .u32 ((ys[i]'(by have := HL.out; omega) : Nat) : Int)) := by rw [HW.out]; exact hb
        have i1 : (0 : Int) ≤ (i : Int) := by omega
        have i2 : (i : Int) < (xs.length : Int) := by omega
        have i3 : (i : Int) < (ys.length : Int) := by have := HL.out; omega
        clear ha hb
        by_cases he : xs[i] = ys[i]'(by have := HL.out; omega)
        · have HE2 : Hid (∀ j (h : j < xs.length), j < i + 1 → ys[j]? = some xs[j]) := Lib.hid fun j hj h2 => by
            rcases Nat.lt_or_ge j i with h3 | h3
            · exact HE.out j hj h3
            · obtain rfl : j = i := by omega
              rw [List.getElem?_eq_getElem (by omega), he]
          rw [← he] at hcB
          clear he
          go_wp2
          go_quiet (fail)
          go_wp2
          go_roundw
          case rel => exact ⟨i + 1, _, by go_num, by omega, by rw [HW.out, World.drewN_drewN]; rfl, HE2.out⟩
          case measure => simp [intOf]; omega
        · have hne := u32_bne he
          have hd : decide (xs = ys) = false := decide_eq_false fun e => he (by simp [e])
          have HD := Lib.hid hd
          clear he hd
          go_wp2
          go_quiet (fail)
          go_wp2
          go_ret
          exact ⟨by rw [HD.out]; rfl, _, by rw [HW.out, World.drewN_drewN]⟩
      · have hd : decide (xs = ys) = true := decide_eq_true (List.ext_getElem HL.out fun j h1 h2 => by
          have := HE.out j h1 (by omega)
          rw [List.getElem?_eq_getElem h2] at this
          exact (Option.some.inj this).symm)
        have HD := Lib.hid hd
        clear hd
        go_wp2
        go_ret
        exact ⟨by rw [HD.out]; rfl, d, HW.out⟩
  · have hl' : ((xs.length : Int) != (ys.length : Int)) = true := by simp; omega
    have e : decide (xs = ys) = false := by simpa using fun e => hl (by rw [e])
    rw [e]
    clear hl e
    go_enter Tryd.func21, Tryd.ntmps21
    go_wp2
    go_ret
    exact ⟨rfl, 0, by rw [World.drewN_zero]⟩

set_option maxHeartbeats 1000000 in
theorem samecells_any (a b : Value) (xs ys : List Nat) (w : World) (ha : RdN w a xs) (hb : RdN w b ys) :
    Calls Tryd.prog 12 #[a, b] w fun e w' => e = .returned (.bool (decide (xs = ys))) ∧ ∃ d, w' = w.drewN d := by
  obtain ⟨A, ca, rfl, hla, hca⟩ := ha
  obtain ⟨B, cb, rfl, hlb, hcb⟩ := hb
  have HA := Lib.hid hca
  have HB := Lib.hid hcb
  clear hca hcb
  by_cases hl : xs.length = ys.length
  · have hl' : ((xs.length : Int) != (ys.length : Int)) = false := by simp [hl]
    have HL := Lib.hid hl
    clear hl
    go_enter Tryd.func12, Tryd.ntmps12
    go_wp2
    go_loopw [5] (fun vi wr => ∃ i d : Nat, vi = .int .i64 i ∧ i ≤ xs.length ∧ Hid (wr = w.drewN d) ∧ Hid (∀ j (h : j < xs.length), j < i → ys[j]? = some xs[j])) (fun vi _ => xs.length - (intOf vi).toNat)
    case atStart => exact ⟨0, 0, rfl, by omega, by rw [World.drewN_zero]; rfl, fun j _ h => by omega⟩
    case round =>
      obtain ⟨i, d, rfl, hi, HW, HE⟩ := hrel
      by_cases hp : i < xs.length
      · obtain ⟨ga, rfl, -, ha⟩ := HA.out i hp
        obtain ⟨gb, rfl, -, hb⟩ := HB.out i (by have := HL.out; omega)
        have hcA : wr.cell? (ga.add i) = some (.int .u32 (xs[i] : Int)) := by rw [HW.out]; exact ha
        have hcB : wr.cell? (gb.add i) = some (.int .u32 ((ys[i]'(by have := HL.out; omega) : Nat) : Int)) := by rw [HW.out]; exact hb
        have i1 : (0 : Int) ≤ (i : Int) := by omega
        have i2 : (i : Int) < (xs.length : Int) := by omega
        have i3 : (i : Int) < (ys.length : Int) := by have := HL.out; omega
        clear ha hb
        by_cases he : xs[i] = ys[i]'(by have := HL.out; omega)
        · have HE2 : Hid (∀ j (h : j < xs.length), j < i + 1 → ys[j]? = some xs[j]) := Lib.hid fun j hj h2 => by
            rcases Nat.lt_or_ge j i with h3 | h3
            · exact HE.out j hj h3
            · obtain rfl : j = i := by omega
              rw [List.getElem?_eq_getElem (by omega), he]
          rw [← he] at hcB
          clear he
          go_wp2
          go_quiet (fail)
          go_wp2
          go_roundw
          case rel => exact ⟨i + 1, _, by go_num, by omega, by rw [HW.out, World.drewN_drewN]; rfl, HE2.out⟩
          case measure => simp [intOf]; omega
        · have hne := u32_bne he
          have hd : decide (xs = ys) = false := decide_eq_false fun e => he (by simp [e])
          have HD := Lib.hid hd
          clear he hd
          go_wp2
          go_quiet (fail)
          go_wp2
          go_ret
          exact ⟨by rw [HD.out]; rfl, _, by rw [HW.out, World.drewN_drewN]⟩
      · have hd : decide (xs = ys) = true := decide_eq_true (List.ext_getElem HL.out fun j h1 h2 => by
          have := HE.out j h1 (by omega)
          rw [List.getElem?_eq_getElem h2] at this
          exact (Option.some.inj this).symm)
        have HD := Lib.hid hd
        clear hd
        go_wp2
        go_ret
        exact ⟨by rw [HD.out]; rfl, d, HW.out⟩
  · have hl' : ((xs.length : Int) != (ys.length : Int)) = true := by simp; omega
    have e : decide (xs = ys) = false := by simpa using fun e => hl (by rw [e])
    rw [e]
    clear hl e
    go_enter Tryd.func12, Tryd.ntmps12
    go_wp2
    go_ret
    exact ⟨rfl, 0, by rw [World.drewN_zero]⟩

set_option maxHeartbeats 1000000 in
theorem l03same_any (a b : Value) (xs ys : List Nat) (w : World) (ha : RdN w a xs) (hb : RdN w b ys) :
    Calls Tryd.prog 94 #[a, b] w fun e w' => e = .returned (.bool (decide (xs = ys))) ∧ ∃ d, w' = w.drewN d := by
  obtain ⟨A, ca, rfl, hla, hca⟩ := ha
  obtain ⟨B, cb, rfl, hlb, hcb⟩ := hb
  have HA := Lib.hid hca
  have HB := Lib.hid hcb
  clear hca hcb
  by_cases hl : xs.length = ys.length
  · have hl' : ((xs.length : Int) != (ys.length : Int)) = false := by simp [hl]
    have HL := Lib.hid hl
    clear hl
    go_enter Tryd.func94, Tryd.ntmps94
    go_wp2
    go_loopw [5] (fun vi wr => ∃ i d : Nat, vi = .int .i64 i ∧ i ≤ xs.length ∧ Hid (wr = w.drewN d) ∧ Hid (∀ j (h : j < xs.length), j < i → ys[j]? = some xs[j])) (fun vi _ => xs.length - (intOf vi).toNat)
    case atStart => exact ⟨0, 0, rfl, by omega, by rw [World.drewN_zero]; rfl, fun j _ h => by omega⟩
    case round =>
      obtain ⟨i, d, rfl, hi, HW, HE⟩ := hrel
      by_cases hp : i < xs.length
      · obtain ⟨ga, rfl, -, ha⟩ := HA.out i hp
        obtain ⟨gb, rfl, -, hb⟩ := HB.out i (by have := HL.out; omega)
        have hcA : wr.cell? (ga.add i) = some (.int .u32 (xs[i] : Int)) := by rw [HW.out]; exact ha
        have hcB : wr.cell? (gb.add i) = some (.int .u32 ((ys[i]'(by have := HL.out; omega) : Nat) : Int)) := by rw [HW.out]; exact hb
        have i1 : (0 : Int) ≤ (i : Int) := by omega
        have i2 : (i : Int) < (xs.length : Int) := by omega
        have i3 : (i : Int) < (ys.length : Int) := by have := HL.out; omega
        clear ha hb
        by_cases he : xs[i] = ys[i]'(by have := HL.out; omega)
        · have HE2 : Hid (∀ j (h : j < xs.length), j < i + 1 → ys[j]? = some xs[j]) := Lib.hid fun j hj h2 => by
            rcases Nat.lt_or_ge j i with h3 | h3
            · exact HE.out j hj h3
            · obtain rfl : j = i := by omega
              rw [List.getElem?_eq_getElem (by omega), he]
          rw [← he] at hcB
          clear he
          go_wp2
          go_quiet (fail)
          go_wp2
          go_roundw
          case rel => exact ⟨i + 1, _, by go_num, by omega, by rw [HW.out, World.drewN_drewN]; rfl, HE2.out⟩
          case measure => simp [intOf]; omega
        · have hne := u32_bne he
          have hd : decide (xs = ys) = false := decide_eq_false fun e => he (by simp [e])
          have HD := Lib.hid hd
          clear he hd
          go_wp2
          go_quiet (fail)
          go_wp2
          go_ret
          exact ⟨by rw [HD.out]; rfl, _, by rw [HW.out, World.drewN_drewN]⟩
      · have hd : decide (xs = ys) = true := decide_eq_true (List.ext_getElem HL.out fun j h1 h2 => by
          have := HE.out j h1 (by omega)
          rw [List.getElem?_eq_getElem h2] at this
          exact (Option.some.inj this).symm)
        have HD := Lib.hid hd
        clear hd
        go_wp2
        go_ret
        exact ⟨by rw [HD.out]; rfl, d, HW.out⟩
  · have hl' : ((xs.length : Int) != (ys.length : Int)) = true := by simp; omega
    have e : decide (xs = ys) = false := by simpa using fun e => hl (by rw [e])
    rw [e]
    clear hl e
    go_enter Tryd.func94, Tryd.ntmps94
    go_wp2
    go_ret
    exact ⟨rfl, 0, by rw [World.drewN_zero]⟩

set_option maxHeartbeats 1000000 in
theorem slequal_any (a b : Value) (xs ys : List Nat) (w : World) (ha : RdN w a xs) (hb : RdN w b ys) :
    Calls Tryd.prog 70 #[a, b] w fun e w' => e = .returned (.bool (decide (xs = ys))) ∧ ∃ d, w' = w.drewN d := by
  obtain ⟨A, ca, rfl, hla, hca⟩ := ha
  obtain ⟨B, cb, rfl, hlb, hcb⟩ := hb
  have HA := Lib.hid hca
  have HB := Lib.hid hcb
  clear hca hcb
  by_cases hl : xs.length = ys.length
  · have hl' : ((xs.length : Int) != (ys.length : Int)) = false := by simp [hl]
    have HL := Lib.hid hl
    clear hl
    go_enter Tryd.func70, Tryd.ntmps70
    go_wp2
    go_loopw [13] (fun vi wr => ∃ i d : Nat, vi = .int .i64 i ∧ i ≤ xs.length ∧ Hid (wr = w.drewN d) ∧ Hid (∀ j (h : j < xs.length), j < i → ys[j]? = some xs[j])) (fun vi _ => xs.length - (intOf vi).toNat)
    case atStart => exact ⟨0, 0, rfl, by omega, by rw [World.drewN_zero]; rfl, fun j _ h => by omega⟩
    case round =>
      obtain ⟨i, d, rfl, hi, HW, HE⟩ := hrel
      by_cases hp : i < xs.length
      · obtain ⟨ga, rfl, -, ha⟩ := HA.out i hp
        obtain ⟨gb, rfl, -, hb⟩ := HB.out i (by have := HL.out; omega)
        have hcA : wr.cell? (ga.add i) = some (.int .u32 (xs[i] : Int)) := by rw [HW.out]; exact ha
        have hcB : wr.cell? (gb.add i) = some (.int .u32 ((ys[i]'(by have := HL.out; omega) : Nat) : Int)) := by rw [HW.out]; exact hb
        have i1 : (0 : Int) ≤ (i : Int) := by omega
        have i2 : (i : Int) < (xs.length : Int) := by omega
        have i3 : (i : Int) < (ys.length : Int) := by have := HL.out; omega
        clear ha hb
        by_cases he : xs[i] = ys[i]'(by have := HL.out; omega)
        · have HE2 : Hid (∀ j (h : j < xs.length), j < i + 1 → ys[j]? = some xs[j]) := Lib.hid fun j hj h2 => by
            rcases Nat.lt_or_ge j i with h3 | h3
            · exact HE.out j hj h3
            · obtain rfl : j = i := by omega
              rw [List.getElem?_eq_getElem (by omega), he]
          rw [← he] at hcB
          clear he
          go_wp2
          go_quiet (fail)
          go_wp2
          go_roundw
          case rel => exact ⟨i + 1, _, by go_num, by omega, by rw [HW.out, World.drewN_drewN]; rfl, HE2.out⟩
          case measure => simp [intOf]; omega
        · have hne := u32_bne he
          have hd : decide (xs = ys) = false := decide_eq_false fun e => he (by simp [e])
          have HD := Lib.hid hd
          clear he hd
          go_wp2
          go_quiet (fail)
          go_wp2
          go_ret
          exact ⟨by rw [HD.out]; rfl, _, by rw [HW.out, World.drewN_drewN]⟩
      · have hd : decide (xs = ys) = true := decide_eq_true (List.ext_getElem HL.out fun j h1 h2 => by
          have := HE.out j h1 (by omega)
          rw [List.getElem?_eq_getElem h2] at this
          exact (Option.some.inj this).symm)
        have HD := Lib.hid hd
        clear hd
        go_wp2
        go_ret
        exact ⟨by rw [HD.out]; rfl, d, HW.out⟩
  · have hl' : ((xs.length : Int) != (ys.length : Int)) = true := by simp; omega
    have e : decide (xs = ys) = false := by simpa using fun e => hl (by rw [e])
    rw [e]
    clear hl e
    go_enter Tryd.func70, Tryd.ntmps70
    go_wp2
    go_ret
    exact ⟨rfl, 0, by rw [World.drewN_zero]⟩

set_option maxHeartbeats 1000000 in
theorem heldn_any (v : Value) (xs : List Nat) (k : Nat) (h1 : k ≤ 4194304) (hx : xs.length ≤ 4194304) (w : World) (ha : RdN w v xs) :
    Calls Tryd.prog 26 #[v, .int .i64 k] w fun e w' => e = .returned (.int .i64 (if xs = (List.range xs.length).map (k + ·) then (k : Int) + xs.length else -1)) ∧ w = w' := by
  obtain ⟨A, ca, rfl, hla, hca⟩ := ha
  have HA := Lib.hid hca
  clear hca hla
  obtain ⟨q, hq⟩ : ∃ q, (if xs = (List.range xs.length).map (k + ·) then (k : Int) + xs.length else -1) = q := ⟨_, rfl⟩
  have HY : Hid ((∀ j (h : j < xs.length), xs[j] = k + j) → q = (k : Int) + xs.length) := Lib.hid fun h => by
    rw [← hq, if_pos]
    exact List.ext_getElem (by simp) fun j h2 h3 => by simpa using h j h2
  have HN : Hid (∀ j (h : j < xs.length), xs[j] ≠ k + j → q = -1) := Lib.hid fun j hj hne => by
    rw [← hq, if_neg]
    intro e
    refine hne ?_
    have : xs[j]? = ((List.range xs.length).map (k + ·))[j]? := by rw [← e]
    rw [List.getElem?_eq_getElem hj] at this
    simpa [hj] using this
  rw [hq]
  clear hq
  go_enter Tryd.func26, Tryd.ntmps26
  go_wp2
  go_loop [1, 5] (fun vk vi => ∃ i : Nat, vi = .int .i64 i ∧ vk = .int .i64 ((k + i : Nat) : Int) ∧ i ≤ xs.length ∧ Hid (∀ j (h : j < xs.length), j < i → xs[j] = k + j)) (fun _ vi => xs.length - (intOf vi).toNat)
  case atStart => exact ⟨0, rfl, rfl, by omega, Lib.hid fun j _ h => by omega⟩
  case round =>
    obtain ⟨i, rfl, rfl, hi, HE⟩ := hrel
    by_cases hp : i < xs.length
    · obtain ⟨ga, rfl, -, ha⟩ := HA.out i hp
      have hc : w.cell? (ga.add i) = some (.int .u32 (xs[i] : Int)) := ha
      have i2 : (i : Int) < (xs.length : Int) := by omega
      obtain ⟨x, hxx⟩ : ∃ x, xs[i] = x := ⟨_, rfl⟩
      rw [hxx] at hc
      by_cases he : x = k + i
      · have HE2 : Hid (∀ j (h : j < xs.length), j < i + 1 → xs[j] = k + j) := Lib.hid fun j hj h2 => by
          rcases Nat.lt_or_ge j i with h3 | h3
          · exact HE.out j hj h3
          · obtain rfl : j = i := by omega
            rw [hxx, he]
        have he' : ((x : Int) != ((k : Int) + (i : Int))) = false := by simp; omega
        clear ha hxx he
        go_wp2
        go_round
        case rel => exact ⟨i + 1, by go_num, by go_num, by omega, HE2⟩
        case measure => simp [intOf]; omega
      · have hQ := Lib.hid (HN.out i hp (by rw [hxx]; exact he))
        have he' : ((x : Int) != ((k : Int) + (i : Int))) = true := by simp; omega
        clear ha hxx he
        go_wp2
        go_ret
        exact ⟨by rw [hQ.out]; rfl, rfl⟩
    · have hQ := Lib.hid (HY.out fun j hj => HE.out j hj (by omega))
      obtain rfl : i = xs.length := by omega
      go_wp2
      go_ret
      exact ⟨by rw [hQ.out]; simp, rfl⟩

/-- n marks, from k on. -/
def marksN (k n : Nat) : List Nat := (List.range n).map (k + ·)
theorem marksN_len (k n : Nat) : (marksN k n).length = n := by simp [marksN]
theorem marksN_succ (k i : Nat) : marksN k (i + 1) = marksN k i ++ [k + i] := by unfold marksN; rw [List.range_succ]; simp
theorem marksN_set {xs : List Nat} {k i : Nat} (h : i < xs.length) : ((marksN k i ++ xs.drop i).map u32v).set i (.int .u32 ((k : Int) + (i : Int))) = (marksN k (i + 1) ++ xs.drop (i + 1)).map u32v := by
  have e : Value.int .u32 ((k : Int) + (i : Int)) = u32v (k + i) := by unfold u32v; push_cast; rfl
  rw [e, marksN_succ, List.map_append, List.map_append, List.set_append_right _ _ (by simp [marksN_len]), List.length_map, marksN_len, Nat.sub_self, List.drop_eq_getElem_cons h, List.map_cons, List.set_cons_zero]
  simp
/-- Where marking stands: block g holds i marks, then what it held. -/
structure MarkedN (W wr : World) (g : Nat) (n : Nat) (xs : List Nat) (k i : Nat) (cap : Nat) (cur : Array Value) : Prop where
  blk : Blk wr g 51 cur
  size : cur.size = cap
  take : cur.toList.take n = (marksN k i ++ xs.drop i).map u32v
  grown : W.grownBy wr (some g)
theorem MarkedN.step {W wr : World} {g : Nat} {xs : List Nat} {k i cap : Nat} {cur : Array Value} (h : MarkedN W wr g xs.length xs k i cap cur) (hi : i < xs.length) :
    MarkedN W (wr.setCell ⟨g, i, none⟩ (.int .u32 ((k : Int) + (i : Int)))) g xs.length xs k (i + 1) cap (cur.setIfInBounds i (.int .u32 ((k : Int) + (i : Int)))) := by
  refine ⟨h.blk.put _ _, by simpa using h.size, ?_, only_setCell h.grown (.inl rfl) _⟩
  rw [Array.toList_setIfInBounds, List.take_set, h.take, marksN_set hi]
theorem MarkedN.cell {W wr : World} {g n : Nat} {xs : List Nat} {k i cap : Nat} {cur : Array Value} (h : MarkedN W wr g n xs k i cap cur) (hi : i < cap) : ∃ u, wr.cell? ⟨g, i, none⟩ = some u ∧ wr.frozen? ⟨g, i, none⟩ = false := by
  have hs := h.size
  exact ⟨cur[i]'(by omega), by rw [h.blk.cell, Array.getElem?_eq_getElem (by omega)], h.blk.frozen i⟩

set_option maxHeartbeats 1000000 in
theorem markn_any (base : Nat) (v : Value) (xs : List Nat) (k : Nat) (h1 : k ≤ 4194304) (hx : xs.length ≤ 4194304) (W : World) (hown : W.ownsRow base 51 1 v xs.length (xs.map u32v)) :
    Calls Tryd.prog 22 #[v, .int .i64 k] W fun e w' => e = .returned (.int .i64 ((k : Int) + xs.length)) ∧ w'.ownsRow base 51 1 v xs.length ((marksN k xs.length).map u32v) ∧ W.grownBy w' v.ownBlock := by
  rcases hown.2 with ⟨rfl, hn0⟩ | ⟨g, cap, cur, rfl, hb, hg, hn, hm, hsz, ht⟩
  · have hxs : xs = [] := List.eq_nil_of_length_eq_zero hn0
    subst hxs
    clear hown
    go_enter Tryd.func22, Tryd.ntmps22
    go_wp2
    go_loop [1, 5] (fun vk vi => vk = .int .i64 k ∧ vi = .int .i64 0) (fun _ _ => 0)
    case atStart => exact ⟨rfl, rfl⟩
    case round =>
      obtain ⟨rfl, rfl⟩ := hrel
      go_wp2
      go_ret
      exact ⟨by simp, World.ownsRow_nil _ _ _ _, World.grownBy.refl _ _⟩
  · have hstart : MarkedN W W g xs.length xs k 0 cap cur := ⟨hg, by simpa using hsz, by simpa [marksN] using ht, World.grownBy.refl _ _⟩
    clear hown hsz ht hg
    unfold maxLen at hm
    go_enter Tryd.func22, Tryd.ntmps22
    go_wp2
    go_loopw [1, 5] (fun vk vi wr => ∃ (i : Nat) (cur : Array Value), vi = .int .i64 i ∧ vk = .int .i64 ((k + i : Nat) : Int) ∧ i ≤ xs.length ∧ MarkedN W wr g xs.length xs k i cap cur) (fun _ vi _ => xs.length - (intOf vi).toNat)
    case atStart => exact ⟨0, cur, rfl, rfl, by omega, hstart⟩
    case round =>
      obtain ⟨i, cur2, rfl, rfl, hi, hM⟩ := hrel
      clear hstart
      by_cases hp : i < xs.length
      · have i1 : (i : Int) < (xs.length : Int) := by omega
        obtain ⟨u, hcu, hfu⟩ := hM.cell (show i < cap by omega)
        go_wp2
        go_roundw
        case rel => exact ⟨i + 1, _, by go_num, by go_num, by omega, hM.step hp⟩
        case measure => simp [intOf]; omega
      · obtain rfl : i = xs.length := by omega
        go_wp2
        go_ret
        refine ⟨by simp, ⟨by simp [marksN_len], .inr ⟨g, cap, cur2, rfl, hb, hM.blk, hn, by unfold maxLen; omega, by simpa using hM.size, ?_⟩⟩, hM.grown⟩
        have := hM.take
        simpa using this
end Go.Proofs.YtllhcdkbgknjdaaDoor

namespace Go.Proofs.YtllhcdkbgknjdaaDoor
open Go.RowKit Go

/-- A list of bytes that can be read. -/
def RdB (w : World) (v : Value) (l : List UInt8) : Prop :=
  ∃ (A : Option Addr) (cap : Nat), v = .slice A l.length cap ∧ l.length ≤ cap ∧ l.length ≤ 4611686018427387904 ∧ ∀ i (h : i < l.length), ∃ a, A = some a ∧ a.block < w.heap.size ∧ w.cell? (a.add i) = some (.int .u8 (l[i].toNat : Int))
theorem RdB.below {w w' : World} {v : Value} {l : List UInt8} (h : RdB w v l) (hb : Below w.heap.size w w') : RdB w' v l := by
  obtain ⟨A, cap, rfl, hl, hc, h⟩ := h
  refine ⟨A, cap, rfl, hl, hc, fun i hi => ?_⟩
  obtain ⟨a, rfl, e2, e3⟩ := h i hi
  exact ⟨a, rfl, Nat.lt_of_lt_of_le e2 hb.size, (hb.cell (by rw [addr_addb]; exact e2)).trans e3⟩
theorem RdB.grown {w w' : World} {v : Value} {l : List UInt8} {row : Option Nat} (h : RdB w v l) (hg : w.grownBy w' row) (hr : ∀ A n c k, v = .slice (some A) n c → row = some k → A.block ≠ k) : RdB w' v l := by
  obtain ⟨A, cap, rfl, hl, hc, h⟩ := h
  refine ⟨A, cap, rfl, hl, hc, fun i hi => ?_⟩
  obtain ⟨a, rfl, e2, e3⟩ := h i hi
  refine ⟨a, rfl, Nat.lt_of_lt_of_le e2 hg.size, (World.cell?_of_block (hg.block _ (by rw [addr_addb]; exact e2) (fun e => ?_))).trans e3⟩
  rw [addr_addb] at e
  exact hr a _ _ _ rfl e.symm rfl
theorem addr_add2 (a : Addr) (m n : Nat) : (a.add m).add n = a.add (m + n) := by
  unfold Addr.add
  by_cases h1 : m = 0
  · subst h1; simp
  · by_cases h2 : n = 0
    · subst h2; simp
    · rw [if_neg h1, if_neg h2, if_neg (by omega)]; simp [Nat.add_assoc]
theorem RdB.drop {w : World} {A : Option Addr} {n cap : Nat} {l : List UInt8} (h : RdB w (.slice A n cap) l) (k : Nat) (hk : k ≤ l.length) : RdB w (.slice (if cap = k then A else A.map (·.add k)) (l.length - k) (cap - k)) (l.drop k) := by
  obtain ⟨A', cap', e, hl, hc, h⟩ := h
  injection e with e1 e2 e3
  subst e1 e2 e3
  refine ⟨_, _, by rw [List.length_drop], by rw [List.length_drop]; omega, by rw [List.length_drop]; omega, fun i hi => ?_⟩
  rw [List.length_drop] at hi
  obtain ⟨a, rfl, e2, e3⟩ := h (k + i) (by omega)
  rw [if_neg (by omega)]
  refine ⟨a.add k, rfl, by rw [addr_addb]; exact e2, ?_⟩
  rw [addr_add2, e3, List.getElem_drop]
def drops (s : ByteArray) (n : Nat) : List UInt8 := s.data.toList.drop n
theorem drops_cons (s : ByteArray) (n : Nat) (h : n < s.size) : drops s n = s[n] :: drops s (n + 1) := List.drop_eq_getElem_cons (l := s.data.toList) h
theorem drops_end (s : ByteArray) (n : Nat) (h : s.size ≤ n) : drops s n = [] := List.drop_eq_nil_of_le (show s.data.toList.length ≤ n from h)

/-- Where packing stands: n letters lie in F, 'free' bits are left. -/
structure Fill (l : List UInt8) (F free n : Nat) : Prop where
  le : free ≤ 28
  nle : n ≤ l.length
  eq : fillN 28 l = (F + (fillN free (l.drop n)).1, n + (fillN free (l.drop n)).2)
  mod : F % 2 ^ free = 0
theorem Fill.start (l : List UInt8) : Fill l 0 28 0 := ⟨Nat.le_refl _, Nat.zero_le _, by simp, rfl⟩
theorem Fill.lt {l : List UInt8} {F free n : Nat} (h : Fill l F free n) : F < 2 ^ 28 := by
  have h1 := fillN_lt l 28
  rw [h.eq] at h1
  exact Nat.lt_of_le_of_lt (Nat.le_add_right _ _) h1
theorem Fill.done {l : List UInt8} {F free n : Nat} (h : Fill l F free n) (hn : n = l.length) : fillN 28 l = (F, n) := by
  rw [h.eq, List.drop_eq_nil_of_le (by omega), fillN_nil]
  rfl
theorem Fill.full {l : List UInt8} {F free n : Nat} (h : Fill l F free n) (hn : n < l.length) (hw : free < wB l[n]) : fillN 28 l = (F, n) := by
  rw [h.eq, List.drop_eq_getElem_cons hn, fillN_stop hw]
  rfl
theorem Fill.more {l : List UInt8} {F free n : Nat} (h : Fill l F free n) (hn : n < l.length) (hw : wB l[n] ≤ free) : Fill l (F + bB l[n] * 2 ^ (free - wB l[n])) (free - wB l[n]) (n + 1) := by
  refine ⟨by have := h.le; omega, hn, ?_, ?_⟩
  · rw [h.eq, List.drop_eq_getElem_cons hn, fillN_go hw]
    exact Prod.ext (Nat.add_assoc _ _ _).symm (by show n + (_ + 1) = n + 1 + _; omega)
  · have hd : 2 ^ (free - wB l[n]) ∣ F := Nat.dvd_trans (Nat.pow_dvd_pow 2 (by omega)) (Nat.dvd_of_mod_eq_zero h.mod)
    exact Nat.mod_eq_zero_of_dvd (Nat.dvd_add hd (Nat.dvd_mul_left _ _))
theorem fit_lt {b w free : Nat} (hb : b < 2 ^ w) (hw : w ≤ free) : b * 2 ^ (free - w) < 2 ^ free := by
  have e : (2 : Nat) ^ free = 2 ^ w * 2 ^ (free - w) := by rw [← Nat.pow_add, show w + (free - w) = free by omega]
  rw [e]
  exact Nat.mul_lt_mul_of_pos_right hb (Nat.two_pow_pos _)
theorem shl_cast (b e : Nat) : (b : Int) * 2 ^ e = ((b * 2 ^ e : Nat) : Int) := by push_cast; rfl
theorem or_fit {F b w free : Nat} (hF : F < 2 ^ 28) (hm : F % 2 ^ free = 0) (hb : b < 2 ^ w) (hw : w ≤ free) (h28 : free ≤ 28) :
    bits .or .u32 (F : Int) ((b : Int) * 2 ^ (free - w) % 4294967296) = ((F + b * 2 ^ (free - w) : Nat) : Int) := by
  have h1 := fit_lt hb hw
  have h2 : 2 ^ free ≤ 2 ^ 28 := Nat.pow_le_pow_right (by decide) h28
  have e1 : (b : Int) * 2 ^ (free - w) % 4294967296 = ((b * 2 ^ (free - w) : Nat) : Int) := by
    rw [shl_cast]
    omega
  obtain ⟨q, hq⟩ := Nat.dvd_of_mod_eq_zero hm
  rw [e1, bitsor_u32 _ _ (by omega) (by omega)]
  congr 1
  rw [hq, ← Nat.two_pow_add_eq_or_of_lt h1]
theorem add_fit {l : List UInt8} {F free n : Nat} (h : Fill l F free n) (hn : n < l.length) (hw : wB l[n] ≤ free) : wrap64 ((F : Int) + wrap64 ((bB l[n] : Int) * 2 ^ (free - wB l[n]))) = ((F + bB l[n] * 2 ^ (free - wB l[n]) : Nat) : Int) := by
  have h1 := fit_lt (bB_lt l[n]) hw
  have h2 : 2 ^ free ≤ 2 ^ 28 := Nat.pow_le_pow_right (by decide) h.le
  have h3 := h.lt
  rw [shl_cast]
  unfold wrap64
  omega

theorem grown_nil_le (s : ByteArray) : s.data.toList.length = s.size := rfl
/-- The bytes of a text, laid anew. -/
theorem rdb_bytes (w : World) (e : TypeId) (s : ByteArray) (hs : s.size ≤ 4611686018427387904) (fr : Nat × Nat) : RdB (w.drew.alloc (.cells (bytesRow s (grownCap w s.size 0 e)) e fr)) (.slice (some ⟨w.heap.size, 0, none⟩) s.size (grownCap w s.size 0 e)) s.data.toList := by
  refine ⟨_, _, rfl, grownCap_ge _ _ _ _, hs, fun i hi => ⟨_, rfl, by simp, ?_⟩⟩
  rw [addr_lit, Nat.zero_add]
  have h1 := World.cell?_alloc_mark w.drew (bytesRow s (grownCap w s.size 0 e)) e fr i
  have h2 : w.drew.heap.size = w.heap.size := rfl
  rw [h2] at h1
  rw [h1, bytesRow_at s _ i hi]
  rfl

set_option maxHeartbeats 1000000 in
theorem spec_l03one (s : ByteArray) (hs : s.size ≤ 4611686018427387904) (w : World) :
    Calls Tryd.prog 88 #[.string s] w fun e w' => e = .returned (.tuple #[.int .u32 ((fillN 28 s.data.toList).1 : Int), .int .i64 ((fillN 28 s.data.toList).2 : Int)]) ∧ w = w' := by
  obtain ⟨p, q, hpq⟩ : ∃ p q, fillN 28 s.data.toList = (p, q) := ⟨_, _, rfl⟩
  obtain ⟨l, hl⟩ : ∃ l, s.data.toList = l := ⟨_, rfl⟩
  have hln : l.length = s.size := by rw [← hl]; rfl
  have hat : ∀ n (h : n < l.length), l[n] = s[n]'(by omega) := fun n h => by subst hl; rfl
  rw [hl] at hpq
  rw [hl, hpq]
  have HD : Hid (∀ F free n, Fill l F free n → n = l.length → p = F ∧ q = n) := Lib.hid fun F free n h e => by
    rw [h.done e] at hpq; injection hpq with e1 e2; exact ⟨e1.symm, e2.symm⟩
  have HF : Hid (∀ F free n (h : Fill l F free n) (hn : n < l.length), free < wB l[n] → p = F ∧ q = n) := Lib.hid fun F free n h hn e => by
    rw [h.full hn e] at hpq; injection hpq with e1 e2; exact ⟨e1.symm, e2.symm⟩
  have HAT := Lib.hid hat
  clear hpq hl hat
  go_enter Tryd.func88, Tryd.ntmps88
  go_wp2
  go_loop [4, 5, 6] (fun vf vl vn => ∃ F free n : Nat, vf = .int .i64 F ∧ vl = .int .i64 free ∧ vn = .int .i64 n ∧ Hid (Fill l F free n)) (fun _ _ vn => l.length - (intOf vn).toNat)
  case atStart => exact ⟨0, 28, 0, rfl, rfl, rfl, Lib.hid (Fill.start l)⟩
  case round =>
    obtain ⟨F, free, n, rfl, rfl, rfl, HR⟩ := hrel
    have hn := HR.out.nle
    have h28 := HR.out.le
    have hlt := HR.out.lt
    by_cases hp : n < l.length
    · have hp' : n < s.size := by omega
      have hck := u8_le s[n]
      have hw := wB_le l[n]
      have HL : Hid (∀ W, Calls Tryd.prog 97 #[.int .u8 (s[n].toNat : Int)] W fun e w' => e = .returned (.int .i64 (letOf l[n])) ∧ W = w') := Lib.hid fun W => by rw [HAT.out n hp]; exact spec_letterof s[n] W
      have HW : Hid (∀ W, Calls Tryd.prog 95 #[.int .i64 (letOf l[n])] W fun e w' => e = .returned (.int .i64 (wB l[n] : Int)) ∧ W = w') := Lib.hid fun W => by rw [wB_int]; exact spec_widthof _ W
      have HB : Hid (∀ W, Calls Tryd.prog 96 #[.int .i64 (letOf l[n])] W fun e w' => e = .returned (.int .u32 (bB l[n] : Int)) ∧ W = w') := Lib.hid fun W => by rw [bB_int]; exact spec_bitsof _ W
      have hbl := bB_le l[n]
      have hFull := HF.out F free n HR.out hp
      have hMore := HR.out.more hp
      have hAdd := add_fit HR.out hp
      have HLr := letOf_range l[n]
      obtain ⟨z, hz⟩ : ∃ z, letOf l[n] = z := ⟨_, rfl⟩
      obtain ⟨d, hd⟩ : ∃ d, wB l[n] = d := ⟨_, rfl⟩
      obtain ⟨b, hb⟩ : ∃ b, bB l[n] = b := ⟨_, rfl⟩
      rw [hz] at HL HW HB HLr
      rw [hd] at HW hFull hMore hAdd hw
      rw [hb] at HB hMore hAdd hbl
      have HFULL := Lib.hid hFull
      have HMORE := Lib.hid hMore
      have HADD := Lib.hid hAdd
      clear hz hd hb hFull hMore hAdd
      by_cases hfit : d ≤ free
      · have hA := HADD.out hfit
        obtain ⟨F2, hF2⟩ : ∃ F2, F + b * 2 ^ (free - d) = F2 := ⟨_, rfl⟩
        have HM := HMORE.out hfit
        rw [hF2] at hA HM
        have HM := Lib.hid HM
        have hgt : decide ((free : Int) < (d : Int)) = false := by simp; omega
        have hnn : (0 : Int) ≤ (free : Int) - (d : Int) := by omega
        clear hF2
        go_wp2_with fail
        refine (HL.out _).mono ?_
        rintro e w' ⟨rfl, rfl⟩
        go_wp2_with fail
        refine (HW.out _).mono ?_
        rintro e w' ⟨rfl, rfl⟩
        go_wp2_with fail
        refine (HB.out _).mono ?_
        rintro e w' ⟨rfl, rfl⟩
        go_wp2_with fail
        go_round
        case rel => exact ⟨F2, free - d, n + 1, by go_num, by go_num, by go_num, HM⟩
        case measure => simp [intOf]; omega
      · have hgt : free < d := by omega
        have HQ := Lib.hid (HFULL.out (by omega))
        clear hfit
        go_wp2_with fail
        refine (HL.out _).mono ?_
        rintro e w' ⟨rfl, rfl⟩
        go_wp2_with fail
        refine (HW.out _).mono ?_
        rintro e w' ⟨rfl, rfl⟩
        go_wp2_with fail
        obtain ⟨rfl, rfl⟩ := HQ.out
        go_ret2
        exact ⟨rfl, rfl⟩
    · have HQ := Lib.hid (HD.out F free n HR.out (by omega))
      go_wp2_with fail
      obtain ⟨rfl, rfl⟩ := HQ.out
      go_ret2
      exact ⟨rfl, rfl⟩
end Go.Proofs.YtllhcdkbgknjdaaDoor

namespace Go.Proofs.YtllhcdkbgknjdaaDoor
open Go.RowKit Go

theorem infoU32 : (Tryd.prog.info? 51).map (fun i => (i.zero, i.size, i.bytes)) = some (some (.int .u32 0), 1, 4) := by kernel_rfl
def copied (xs : List Nat) (i : Nat) : List Nat := xs.take i ++ List.replicate (xs.length - i) 0
theorem copied_len (xs : List Nat) (i : Nat) (h : i ≤ xs.length) : (copied xs i).length = xs.length := by simp [copied]; omega
theorem copied_zero (xs : List Nat) : (copied xs 0).map u32v = List.replicate xs.length (.int .u32 0) := by simp [copied, u32v]
theorem copied_full (xs : List Nat) : copied xs xs.length = xs := by simp [copied]
theorem copied_set {xs : List Nat} {i : Nat} (h : i < xs.length) : ((copied xs i).map u32v).set i (.int .u32 (xs[i] : Int)) = (copied xs (i + 1)).map u32v := by
  have e : Value.int .u32 (xs[i] : Int) = u32v xs[i] := rfl
  rw [e, List.map_set.symm]
  congr 1
  unfold copied
  obtain ⟨m, hm⟩ : ∃ m, xs.length - i = m + 1 := ⟨xs.length - i - 1, by omega⟩
  rw [hm, show xs.length - (i + 1) = m by omega, List.replicate_succ, List.set_append_right _ _ (by simp; omega)]
  have : i - (xs.take i).length = 0 := by simp; omega
  rw [this, List.set_cons_zero, List.take_succ_eq_append_getElem h, List.append_assoc]
  rfl

set_option maxHeartbeats 1000000 in
theorem tou_any (v : Value) (xs : List Nat) (hx : xs.length ≤ 4194304) (W : World) (ha : RdN W v xs) : Calls Tryd.prog 20 #[v] W (NewN W xs) := by
  obtain ⟨i0, hi, hz0, hz1, hz2⟩ := info_parts infoU32
  obtain ⟨A, ca, rfl, hla, hca⟩ := ha
  have HA := Lib.hid hca
  clear hca hla
  go_enter Tryd.func20, Tryd.ntmps20
  go_wp2_with (refine wpList_make_full _ rfl _ _ _ rfl W.heap.size 51 i0 (.int .u32 0) 1 Tryd.underlying24 hi hz0 hz1 .i64 .i64 _ _ xs.length rfl rfl rfl rfl (by rw [hz2]; omega) (by unfold maxLen; omega) (Nat.le_refl _) ?_; intro w1 hown hgr)
  have hb1 : Below W.heap.size W w1 := (Below.refl _ _).grown hgr (Nat.le_refl _) (fun k hk => by cases hk)
  have hown1 : w1.ownsRow W.heap.size 51 1 (.slice (some ⟨W.heap.size, 0, none⟩) xs.length xs.length) xs.length ((copied xs 0).map u32v) := by
    rw [copied_zero]
    rw [show (madeCells (Value.int .u32 0).cells (xs.length * 1)).toList = List.replicate xs.length (.int .u32 0) by rw [Nat.mul_one]; exact toList_madeCells_one _ _] at hown
    exact hown
  clear hown hgr
  go_loopw [4] (fun vi wr => ∃ i : Nat, vi = .int .i64 i ∧ i ≤ xs.length ∧ wr.ownsRow W.heap.size 51 1 (.slice (some ⟨W.heap.size, 0, none⟩) xs.length xs.length) xs.length ((copied xs i).map u32v) ∧ Below W.heap.size W wr) (fun vi _ => xs.length - (intOf vi).toNat)
  case atStart => exact ⟨0, rfl, by omega, hown1, hb1⟩
  case round =>
    clear hown1 hb1
    obtain ⟨i, rfl, hi, hO, hB⟩ := hrel
    by_cases hp : i < xs.length
    · obtain ⟨ga, rfl, hgl, ha⟩ := HA.out i hp
      have hc : wr.cell? (ga.add i) = some (.int .u32 (xs[i] : Int)) := (hB.cell (by rw [addr_addb]; exact hgl)).trans ha
      have i2 : (i : Int) < (xs.length : Int) := by omega
      have hd : wr.cell? ⟨W.heap.size, i, none⟩ = some (u32v ((copied xs i)[i]'(by rw [copied_len xs i hi]; exact hp))) := by
        rw [hO.cellAt i (by omega)]
        simp [copied_len xs i hi, hp]
      have hf := hO.frozenAt i
      have hs := hO.stored i (.int .u32 (xs[i] : Int))
      rw [copied_set hp] at hs
      have HS := Lib.hid hs
      have HB := Lib.hid hB
      clear ha hgl hs hO hB
      go_wp2
      go_roundw
      case rel => exact ⟨i + 1, by go_num, by omega, HS.out.1, HB.out.grown HS.out.2 HB.out.size (fun k hk => by injection hk with hk; omega)⟩
      case measure => simp [intOf]; omega
    · obtain rfl : i = xs.length := by omega
      rw [copied_full] at hO
      go_wp2
      go_ret
      exact ⟨_, rfl, hO, hB⟩
end Go.Proofs.YtllhcdkbgknjdaaDoor

namespace Go.Proofs.YtllhcdkbgknjdaaDoor
open Go.RowKit Go

theorem own_base {w : World} {b b' : Nat} {e : TypeId} {size : Nat} {v : Value} {n : Nat} {xs : List Value} (h : w.ownsRow b e size v n xs) (hb : b' ≤ b) : w.ownsRow b' e size v n xs := by
  refine ⟨h.1, ?_⟩
  rcases h.2 with h2 | ⟨g, cap, cur, hv, hg, r⟩
  · exact .inl h2
  · exact .inr ⟨g, cap, cur, hv, by omega, r⟩
theorem rest_list (t : ByteArray) (q : Nat) : (t.extract q t.size).data.toList = t.data.toList.drop q := by
  have h : (t.extract q t.size).data = t.data.extract q t.size := ByteArray.data_extract
  rw [h, Array.toList_extract]
  show ((t.data.toList.drop q).take (t.size - q)) = _
  rw [List.take_of_length_le]
  rw [List.length_drop]
  exact Nat.le_refl _
theorem rest_size (t : ByteArray) (q : Nat) : (t.extract q t.size).size = t.size - q := by
  show (t.extract q t.size).data.toList.length = _
  rw [rest_list, List.length_drop]
  rfl
theorem str_empty {t : ByteArray} (h : t.size = 0) : t.data.toList = [] := List.eq_nil_of_length_eq_zero h
theorem str_some {t : ByteArray} (h : t.size ≠ 0) : t.data.toList ≠ [] := fun e => h (by show t.data.toList.length = 0; rw [e]; rfl)
/-- Where packing a name stands: 'pre' is packed, 'r' is left. -/
structure PackAt (l : List UInt8) (pre : List Nat) (r : List UInt8) : Prop where
  eq : packL l = pre ++ packL r
  len : pre.length + r.length ≤ l.length
theorem PackAt.start (l : List UInt8) : PackAt l [] l := ⟨rfl, by simp⟩
theorem PackAt.done {l : List UInt8} {pre : List Nat} {r : List UInt8} (h : PackAt l pre r) (hr : r = []) : packL l = pre := by
  rw [h.eq, hr, packL_nil, List.append_nil]
theorem PackAt.more {l : List UInt8} {pre : List Nat} {r : List UInt8} (h : PackAt l pre r) (hr : r ≠ []) : PackAt l (pre ++ [(fillN 28 r).1]) (r.drop (fillN 28 r).2) := by
  have hp := fillN_pos hr
  have hl := fillN_len r 28
  refine ⟨?_, ?_⟩
  · rw [h.eq, packL_go hr, List.append_assoc]
    rfl
  · have := h.len
    rw [List.length_append, List.length_drop]
    simp
    omega

/-- The bytes left of a name: their block, and what can be read. -/
def LeftAt (g : Nat) (wr : World) (v : Value) (r : List UInt8) : Prop := ∃ A n cap, v = .slice A n cap ∧ (∀ a, A = some a → a.block = g) ∧ RdB wr (.slice A n cap) r ∧ n = r.length
set_option maxHeartbeats 2000000 in
theorem spec_pack (s : ByteArray) (hs : s.size ≤ 4611686018427387904) (w : World) : Calls Tryd.prog 78 #[.string s] w (NewN w (packs s.data.toList)) := by
  obtain ⟨i0, hi, hz0, hz1, hz2⟩ := info_parts infoU32
  have HN : ∀ W, Hid (Calls Tryd.prog 87 #[.string s] W fun e w' => e = .returned (.bool (nameL s.data.toList)) ∧ W = w') := fun W => Lib.hid (by rw [← nameOk_list]; exact spec_nameok s hs W)
  cases hn : nameL s.data.toList with
  | false =>
    rw [hn] at HN
    rw [packs_no hn]
    clear hn
    go_enter Tryd.func78, Tryd.ntmps78
    go_wp2_with fail
    refine (HN _).out.mono ?_
    rintro e w' ⟨rfl, rfl⟩
    go_wp2_with fail
    go_ret
    exact ⟨_, rfl, own_empty _ _, (Below.refl _ _).alloc (Nat.le_refl _) _⟩
  | true =>
    rw [hn] at HN
    rw [packs_yes hn]
    obtain ⟨l, hl⟩ : ∃ l, s.data.toList = l := ⟨_, rfl⟩
    have h24 : l.length ≤ 24 := by rw [← hl]; exact (of_decide_eq_true hn).2.1
    have HS0 : Hid (PackAt l [] s.data.toList) := Lib.hid (by rw [hl]; exact PackAt.start l)
    rw [hl]
    clear hn hl
    go_enter Tryd.func78, Tryd.ntmps78
    go_wp2_with fail
    refine (HN _).out.mono ?_
    rintro e w' ⟨rfl, rfl⟩
    go_wp2_with fail
    go_loopw [0, 3] (fun vs vo wr => ∃ (t : ByteArray) (pre : List Nat), vs = .string t ∧ Hid (PackAt l pre t.data.toList) ∧ wr.ownsRow w.heap.size 51 1 vo pre.length (pre.map u32v) ∧ Below w.heap.size w wr) (fun vs _ _ => match vs with | .string t => t.size | _ => 0)
    case atStart => exact ⟨s, [], rfl, HS0, own_empty _ _, (Below.refl _ _).alloc (Nat.le_refl _) _⟩
    case round =>
      obtain ⟨t, pre, rfl, HA, hown, hB⟩ := hrel
      have hlen : pre.length + t.size ≤ 24 := Nat.le_trans HA.out.len h24
      by_cases hp : t.size = 0
      · have he := str_empty hp
        have e1 : t.toList.isEmpty = true := by rw [ByteArray.toList_eq, he]; rfl
        have HQ := Lib.hid (HA.out.done he)
        have HO := Lib.hid (show wr.ownsRow w.heap.size 51 1 _ pre.length (pre.map u32v) ∧ Below w.heap.size w wr from ⟨hown, hB⟩)
        clear he hp hown hB
        go_wp2_with fail
        go_ret
        rw [HQ.out]
        exact ⟨_, rfl, HO.out.1, HO.out.2⟩
      · have he := str_some hp
        have e1 : t.toList.isEmpty = false := by rw [ByteArray.toList_eq]; simpa using fun e => he (by rw [e])
        have HM := HA.out.more he
        have hq := fillN_len t.data.toList 28
        have hq1 := fillN_pos he
        have hqs : t.data.toList.length = t.size := rfl
        rw [hqs] at hq
        have HF := spec_l03one t (by omega) wr
        obtain ⟨p, q, hpq⟩ : ∃ p q, fillN 28 t.data.toList = (p, q) := ⟨_, _, rfl⟩
        rw [hpq] at HM hq hq1 HF
        have HF := Lib.hid HF
        rw [← rest_list] at HM
        have hrs := rest_size t q
        obtain ⟨t2, ht2⟩ : ∃ t2, t.extract q t.size = t2 := ⟨_, rfl⟩
        have HT2 := Lib.hid ht2
        rw [ht2] at HM hrs
        have HM := Lib.hid HM
        have i1 : (q : Int) ≤ (t.size : Int) := by simp at hq; omega
        clear he hpq ht2
        go_wp2_with fail
        refine HF.out.mono ?_
        rintro e w' ⟨rfl, rfl⟩
        go_wp2_with (at_builtin; refine wpList_append_own _ rfl _ _ 24 rfl w.heap.size 51 i0 (.int .u32 0) 1 4 Tryd.underlying24 hi hz0 hz1 hz2 rfl (by decide) _ _ _ rfl (hown.alloc _) ⟨wr.heap.size, 0, none⟩ 1 1 [.int .u32 (p : Int)] rfl rfl (cell_one_new _ _ _) (by simp [Value.oneCell']) (by unfold maxLen; omega) (by omega) (by have := hB.size; simp; omega) ?_; intro v' w1 hown' hgrow _)
        go_roundw
        case rel => exact ⟨t2, pre ++ [p], by rw [← HT2.out], HM, by simpa [u32v] using hown', (hB.alloc (by have := hB.size; omega) _).grown hgrow (by have := hB.size; simp; omega) (own_lt hown)⟩
        case measure => show (t.extract q t.size).size < t.size; rw [HT2.out, hrs]; omega
end Go.Proofs.YtllhcdkbgknjdaaDoor

namespace Go.Proofs.YtllhcdkbgknjdaaDoor
open Go.RowKit Go

def SomeU32 (w : World) (e : Ending) (w' : World) : Prop := ∃ b : Nat, e = .returned (.int .u32 b) ∧ b < 4294967296 ∧ w = w'
theorem impl_bitsany (k : Int) (w : World) (hc : TabsAny w) : Calls Tryd.prog 104 #[.int .i64 k] w (SomeU32 w) := by
  by_cases h : 0 ≤ k ∧ k ≤ 47
  · obtain ⟨n, rfl⟩ : ∃ n : Nat, k = n := ⟨k.toNat, by omega⟩
    have hb := Lib.hid (inB_true h.1 h.2)
    have hi := Lib.hid (isletter_any (n : Int) w)
    have hn : n < 48 := by omega
    obtain ⟨v, hv, hcell⟩ := hc.2 n hn
    clear h hc
    go_enter Tryd.func104, Tryd.ntmps104
    go_wp2_with fail
    refine hi.out.mono ?_
    rintro e w' ⟨he, rfl⟩
    rw [hb.out] at he
    subst he
    go_wp2_with fail
    go_ret
    exact ⟨v, rfl, by omega, rfl⟩
  · have hb := Lib.hid (inB_false h)
    clear h hc
    go_enter Tryd.func104, Tryd.ntmps104
    go_wp2_with fail
    refine (isletter_any _ _).mono ?_
    rintro e w' ⟨he, rfl⟩
    rw [hb.out] at he
    subst he
    go_wp2_with fail
    go_ret
    exact ⟨0, rfl, by omega, rfl⟩
theorem or_nat (x y : Int) : ∃ n : Nat, bits .or .u32 x y = (n : Int) ∧ n < 4294967296 := by
  have h : bits .or .u32 x y = IntKind.u32.wrap ((BitVec.ofInt 32 x ||| BitVec.ofInt 32 y).toNat : Int) := rfl
  rw [h, IntKind.wrap_u32]
  exact ⟨((((BitVec.ofInt 32 x ||| BitVec.ofInt 32 y).toNat : Int)) % 4294967296).toNat, by omega, by omega⟩
/-- Filling a field takes just so many letters. -/
def Filled (n : Nat) (w : World) (e : Ending) (w' : World) : Prop := ∃ x : Nat, e = .returned (.tuple #[.int .u32 x, .int .i64 (n : Int)]) ∧ x < 4294967296 ∧ w = w'

set_option maxHeartbeats 1000000 in
theorem impl_fillany (v : Value) (l : List UInt8) (w : World) (hv : RdB w v l) (hcs : TabsAny w) :
    Calls Tryd.prog 102 #[v] w (Filled (fillN 28 l).2 w) := by
  obtain ⟨A, cap, rfl, hlc, hl62, hcell⟩ := hv
  have HC := Lib.hid hcell
  obtain ⟨p, q, hpq⟩ : ∃ p q, fillN 28 l = (p, q) := ⟨_, _, rfl⟩
  rw [hpq]
  have HD : Hid (∀ F free n, Fill l F free n → n = l.length → q = n) := Lib.hid fun F free n h e => by
    rw [h.done e] at hpq; injection hpq with e1 e2; exact e2.symm
  have HF : Hid (∀ F free n (h : Fill l F free n) (hn : n < l.length), free < wB l[n] → q = n) := Lib.hid fun F free n h hn e => by
    rw [h.full hn e] at hpq; injection hpq with e1 e2; exact e2.symm
  have HCS := Lib.hid hcs
  clear hpq hcell hcs hlc
  go_enter Tryd.func102, Tryd.ntmps102
  go_wp2
  go_loop [4, 5, 12] (fun vf vl vn => ∃ x F free n : Nat, vf = .int .u32 x ∧ vl = .int .i64 free ∧ vn = .int .i64 n ∧ x < 4294967296 ∧ Hid (Fill l F free n)) (fun _ _ vn => l.length - (intOf vn).toNat)
  case atStart => exact ⟨0, 0, 28, 0, rfl, rfl, rfl, by omega, Lib.hid (Fill.start l)⟩
  case round =>
    obtain ⟨x, F, free, n, rfl, rfl, rfl, hx, HR⟩ := hrel
    have hn := HR.out.nle
    have h28 := HR.out.le
    by_cases hp : n < l.length
    · obtain ⟨a, rfl, -, hc⟩ := HC.out n hp
      have hck := u8_le l[n]
      have hw := wB_le l[n]
      have HL : Hid (∀ W, Calls Tryd.prog 103 #[.int .u8 (l[n].toNat : Int)] W fun e w' => e = .returned (.int .i64 (letOf l[n])) ∧ W = w') := Lib.hid fun W => impl_letterof l[n] W
      have HW : Hid (∀ W, Calls Tryd.prog 99 #[.int .i64 (letOf l[n])] W fun e w' => e = .returned (.int .i64 (wB l[n] : Int)) ∧ W = w') := Lib.hid fun W => by rw [wB_int]; exact impl_widthof _ W
      have HB := Lib.hid (impl_bitsany (letOf l[n]) w HCS.out)
      have hFull := HF.out F free n HR.out hp
      have hMore := HR.out.more hp
      have HLr := letOf_range l[n]
      obtain ⟨z, hz⟩ : ∃ z, letOf l[n] = z := ⟨_, rfl⟩
      obtain ⟨d, hd⟩ : ∃ d, wB l[n] = d := ⟨_, rfl⟩
      rw [hz] at HL HW HB HLr
      rw [hd] at HW hFull hMore hw
      have HFULL := Lib.hid hFull
      have HMORE := Lib.hid hMore
      clear hz hd hFull hMore
      by_cases hfit : d ≤ free
      · have HM := Lib.hid (HMORE.out hfit)
        have hnn : (0 : Int) ≤ (free : Int) - (d : Int) := by omega
        go_wp2_with fail
        refine (HL.out _).mono ?_
        rintro e w' ⟨rfl, rfl⟩
        go_wp2_with fail
        refine (HW.out _).mono ?_
        rintro e w' ⟨rfl, rfl⟩
        go_wp2_with fail
        refine HB.out.mono ?_
        rintro e w' ⟨b, rfl, hb, rfl⟩
        obtain ⟨y, hy, hyl⟩ := or_nat (x : Int) ((b : Int) * 2 ^ (free - d) % 4294967296)
        have HYL := Lib.hid hyl
        clear hyl
        go_wp2_with fail
        go_round
        case rel => exact ⟨y, _, free - d, n + 1, by first | rfl | go_num | (simpa using hy), by go_num, by go_num, HYL.out, HM⟩
        case measure => simp [intOf]; omega
      · have hgt : free < d := by omega
        have HQ := Lib.hid (HFULL.out (by omega))
        clear hfit
        go_wp2_with fail
        refine (HL.out _).mono ?_
        rintro e w' ⟨rfl, rfl⟩
        go_wp2_with fail
        refine (HW.out _).mono ?_
        rintro e w' ⟨rfl, rfl⟩
        go_wp2_with fail
        go_ret2
        rw [HQ.out]
        exact ⟨x, rfl, hx, rfl⟩
    · have HQ := Lib.hid (HD.out F free n HR.out (by omega))
      obtain rfl : n = l.length := by omega
      go_wp2_with fail
      go_ret2
      rw [HQ.out]
      exact ⟨x, rfl, hx, rfl⟩

theorem snoc_len {zs pre : List Nat} {y p : Nat} (h : zs.length = pre.length ∧ ∀ z ∈ zs, z < 4294967296) (hy : y < 4294967296) : (zs ++ [y]).length = (pre ++ [p]).length ∧ ∀ z ∈ zs ++ [y], z < 4294967296 := by
  refine ⟨?_, fun z hz => ?_⟩
  · rw [List.length_append, List.length_append, h.1]; rfl
  · rcases List.mem_append.1 hz with hz | hz
    · exact h.2 z hz
    · rw [List.mem_singleton.1 hz]; exact hy
/-- A new list of so many numbers. -/
def NewLen (w : World) (n : Nat) (e : Ending) (w' : World) : Prop := ∃ (v : Value) (zs : List Nat), e = .returned v ∧ zs.length = n ∧ (∀ z ∈ zs, z < 4294967296) ∧ w'.ownsRow w.heap.size 51 1 v zs.length (zs.map u32v) ∧ Below w.heap.size w w'
theorem NewLen.of_new {w : World} {xs : List Nat} (hx : ∀ z ∈ xs, z < 4294967296) {e : Ending} {w' : World} (h : NewN w xs e w') : NewLen w xs.length e w' := by
  obtain ⟨v, e1, e2, e3⟩ := h
  exact ⟨v, xs, e1, rfl, hx, e2, e3⟩

set_option maxHeartbeats 2000000 in
theorem impl_packany (s : ByteArray) (hs : s.size ≤ 4611686018427387904) (w : World) (hcs : TabsAny w) : Calls Tryd.prog 98 #[.string s] w (NewLen w (packs s.data.toList).length) := by
  obtain ⟨i0, hi, hz0, hz1, hz2⟩ := info_parts infoU32
  have HN := Lib.hid (impl_nameok s hs w)
  rw [nameOk_list] at HN
  cases hn : nameL s.data.toList with
  | false =>
    rw [hn] at HN
    rw [packs_no hn]
    clear hn hcs
    go_enter Tryd.func98, Tryd.ntmps98
    go_wp2_with fail
    refine HN.out.mono ?_
    rintro e w' ⟨rfl, rfl⟩
    go_wp2_with fail
    go_ret
    exact ⟨_, [], rfl, rfl, fun z hz => absurd hz List.not_mem_nil, World.ownsRow_nil _ _ _ _, Below.refl _ _⟩
  | true =>
    rw [hn] at HN
    rw [packs_yes hn]
    have hconv := run_bytes_of_string (P := Tryd.prog) w 9 22 5 s Tryd.underlying9 Tryd.underlying22 Tryd.underlying5
    have hr := rdb_bytes w 5 s hs ((bytesRow s (grownCap w s.size 0 5)).size, (bytesRow s (grownCap w s.size 0 5)).size + 1)
    have hb1 : Below w.heap.size w (w.drew.alloc (.cells (bytesRow s (grownCap w s.size 0 5)) 5 ((bytesRow s (grownCap w s.size 0 5)).size, (bytesRow s (grownCap w s.size 0 5)).size + 1))) := (below_drewN (Below.refl _ _) 1).alloc (Nat.le_refl _) _
    have hsz : (w.drew.alloc (.cells (bytesRow s (grownCap w s.size 0 5)) 5 ((bytesRow s (grownCap w s.size 0 5)).size, (bytesRow s (grownCap w s.size 0 5)).size + 1))).heap.size = w.heap.size + 1 := by simp
    obtain ⟨W1, hW1⟩ : ∃ W1, w.drew.alloc (.cells (bytesRow s (grownCap w s.size 0 5)) 5 ((bytesRow s (grownCap w s.size 0 5)).size, (bytesRow s (grownCap w s.size 0 5)).size + 1)) = W1 := ⟨_, rfl⟩
    rw [hW1] at hconv hr hb1 hsz
    obtain ⟨cap, hcap⟩ : ∃ cap, grownCap w s.size 0 5 = cap := ⟨_, rfl⟩
    rw [hcap] at hconv hr
    obtain ⟨l, hl⟩ : ∃ l, s.data.toList = l := ⟨_, rfl⟩
    have h24 : l.length ≤ 24 := by rw [← hl]; exact (of_decide_eq_true hn).2.1
    have hls : s.size = l.length := by rw [← hl]; rfl
    rw [hl] at hr ⊢
    rw [hls] at hconv
    have HL0 : Hid (LeftAt w.heap.size W1 (.slice (some ⟨w.heap.size, 0, none⟩) l.length cap) l) := Lib.hid ⟨_, _, _, rfl, fun a h => by obtain rfl := Option.some.inj h; rfl, by rw [← hls]; exact hr, rfl⟩
    have HCS := Lib.hid (hcs.below hb1)
    have HB := Lib.hid hb1
    clear hn hl hcs hr hb1 hW1 hcap
    go_enter Tryd.func98, Tryd.ntmps98
    go_wp2_with fail
    refine HN.out.mono ?_
    rintro e w' ⟨rfl, rfl⟩
    go_wp2_with fail
    go_loopw [3, 4] (fun vo vl wr => ∃ (pre : List Nat) (zs : List Nat) (r : List UInt8), Hid (PackAt l pre r) ∧ Hid (zs.length = pre.length ∧ ∀ z ∈ zs, z < 4294967296) ∧ Hid (LeftAt w.heap.size wr vl r) ∧ wr.ownsRow W1.heap.size 51 1 vo zs.length (zs.map u32v) ∧ Below W1.heap.size W1 wr) (fun _ vl _ => match vl with | .slice _ n _ => n | _ => 0)
    case atStart => exact ⟨[], [], l, Lib.hid (PackAt.start l), Lib.hid ⟨rfl, fun z hz => absurd hz List.not_mem_nil⟩, HL0, World.ownsRow_nil _ _ _ _, Below.refl _ _⟩
    case round =>
      obtain ⟨pre, zs, r, HA, HZ, HL, hown, hB⟩ := hrel
      obtain ⟨A, n, cap2, rfl, hA, hR, rfl⟩ := HL.out
      have hlen : zs.length + r.length ≤ 24 := by have := HA.out.len; have := HZ.out.1; omega
      by_cases hp : r = []
      · have HQ := Lib.hid (HA.out.done hp)
        have hp0 : r.length = 0 := by rw [hp]; rfl
        have HO := Lib.hid (show wr.ownsRow w.heap.size 51 1 _ zs.length (zs.map u32v) ∧ Below w.heap.size w wr from ⟨own_base hown (by omega), HB.out.trans (hB.mono (by omega))⟩)
        clear hp hown hB hR hA HL
        go_wp2_with fail
        go_ret
        rw [HQ.out]
        exact ⟨_, zs, rfl, HZ.out.1, HZ.out.2, HO.out.1, HO.out.2⟩
      · have HM := HA.out.more hp
        have hp1 : 0 < r.length := List.length_pos_iff.2 hp
        have hq := fillN_len r 28
        have hq1 := fillN_pos hp
        have HF := impl_fillany _ _ wr hR (HCS.out.below hB)
        have hD := hR.drop (fillN 28 r).2 hq
        obtain ⟨p, q, hpq⟩ : ∃ p q, fillN 28 r = (p, q) := ⟨_, _, rfl⟩
        rw [hpq] at HM hq hq1 HF hD
        have HF := Lib.hid HF
        have HM := Lib.hid HM
        have HD := Lib.hid hD
        have HAA := Lib.hid hA
        have i1 : (q : Int) ≤ (r.length : Int) := by simp at hq; omega
        have i2 : 1 ≤ q := hq1
        clear hp hpq hR hD hA HL hq hq1
        go_wp2_with fail
        refine HF.out.mono ?_
        rintro e w' ⟨y, rfl, hy, rfl⟩
        have HZ2 : Hid ((zs ++ [y]).length = (pre ++ [p]).length ∧ ∀ z ∈ zs ++ [y], z < 4294967296) := Lib.hid (snoc_len HZ.out hy)
        clear hy
        go_wp2_with (at_builtin; refine wpList_append_own _ rfl _ _ 24 rfl W1.heap.size 51 i0 (.int .u32 0) 1 4 Tryd.underlying24 hi hz0 hz1 hz2 rfl (by decide) _ _ _ rfl (hown.alloc _) ⟨wr.heap.size, 0, none⟩ 1 1 [.int .u32 (y : Int)] rfl rfl (cell_one_new _ _ _) (by simp [Value.oneCell']) (by unfold maxLen; omega) (by omega) (by have := hB.size; simp; omega) ?_; intro v' w1 hown' hgrow _)
        go_roundw
        case rel => exact ⟨pre ++ [p], zs ++ [y], r.drop q, HM, HZ2, Lib.hid ⟨_, _, _, rfl, fun a h => by
            split at h
            · exact HAA.out a h
            · obtain ⟨a', ha', rfl⟩ := Option.map_eq_some_iff.1 h
              rw [addr_addb]; exact HAA.out a' ha', (HD.out.below ((Below.refl _ _).alloc (Nat.le_refl _) _)).grown hgrow (fun A n c k e1 e2 => by
                have h1 := own_lt hown k e2
                injection e1 with e1 _ _
                have h3 : A.block = w.heap.size := by
                  split at e1
                  · exact HAA.out A e1
                  · obtain ⟨a', ha', rfl⟩ := Option.map_eq_some_iff.1 e1
                    rw [addr_addb]; exact HAA.out a' ha'
                omega), by rw [List.length_drop]⟩, by simpa [u32v] using hown', (hB.alloc (by have := hB.size; omega) _).grown hgrow (by have := hB.size; simp; omega) (own_lt hown)⟩
        case measure => show r.length - q < r.length; omega
end Go.Proofs.YtllhcdkbgknjdaaDoor

namespace Go.Proofs.YtllhcdkbgknjdaaDoor
open Go

structure It where
  kind : Int
  name : ByteArray
  n : Int
  hex : Bool
  raw : Nat
  deriving DecidableEq
def noText : ByteArray := ⟨#[]⟩
def rawIt (c : Nat) : It := ⟨0, ⟨#[]⟩, 0, false, c⟩
/-- The 32 bits of a number with a sign. -/
def lowN (n : Int) : Nat := (n % 4294967296).toNat
/-- The number with a sign that 32 bits are. -/
def sgn (x : Nat) : Int := if x < 2147483648 then (x : Int) else (x : Int) - 4294967296
def tagW (k : Int) : Nat := if k = 1 then 1 else if k = 2 then 3 else if k = 3 then 4 else if k = 4 then 9 else if k = 5 then 10 else if k = 6 then 11 else 0
def kindT (t : Nat) : Int := if t = 1 then 1 else if t = 3 then 2 else if t = 4 then 3 else if t = 9 then 4 else if t = 10 then 5 else if t = 11 then 6 else -1
def wordCells (tag : Nat) : List Nat → List Nat
  | [] => []
  | f :: r => (f * 16 + tag) :: r.map (· * 16)
def wideN (n : Int) : Bool := decide (n < -67108864 ∨ 67108863 < n)
def hexN (h : Bool) : Nat := if h = true then 16 else 0
def numCells (n : Int) (h : Bool) (short long : Nat) : List Nat := if wideN n = true then [hexN h + long, lowN n] else [lowN n % 134217728 * 32 + hexN h + short]
def shortOf (k : Int) : Nat := if k = 7 then 8 else 6
def longOf (k : Int) : Nat := if k = 7 then 2 else 5
def varCells : List Nat → Int → List Nat
  | [f], n => [f * 16 + 12, lowN n]
  | _, _ => []
/-- The cells of an item. -/
def cellsOf (it : It) : List Nat :=
  if it.kind = 0 then (if it.name = noText ∧ it.n = 0 ∧ it.hex = false then [it.raw] else [])
  else if it.kind = 7 ∨ it.kind = 8 then (if it.name = noText ∧ it.raw = 0 then numCells it.n it.hex (shortOf it.kind) (longOf it.kind) else [])
  else if it.kind = 9 then (if it.hex = false ∧ it.raw = 0 then varCells (packs it.name.data.toList) it.n else [])
  else if 1 ≤ it.kind ∧ it.kind ≤ 6 then (if it.n = 0 ∧ it.hex = false ∧ it.raw = 0 then wordCells (tagW it.kind) (packs it.name.data.toList) else [])
  else []
/-- An item as memory can hold it. -/
structure ItIn (it : It) : Prop where
  k1 : -9223372036854775808 ≤ it.kind
  k2 : it.kind ≤ 9223372036854775807
  n1 : -2147483648 ≤ it.n
  n2 : it.n ≤ 2147483647
  r : it.raw < 4294967296
  s : it.name.size ≤ 4611686018427387904

theorem lowN_lt (n : Int) : lowN n < 4294967296 := by unfold lowN; omega
theorem lowN_sgn {x : Nat} (h : x < 4294967296) : lowN (sgn x) = x := by unfold lowN sgn; split <;> omega
theorem sgn_low {n : Int} (h1 : -2147483648 ≤ n) (h2 : n ≤ 2147483647) : sgn (lowN n) = n := by unfold lowN sgn; split <;> omega
theorem sgn_in {x : Nat} (h : x < 4294967296) : -2147483648 ≤ sgn x ∧ sgn x ≤ 2147483647 := by unfold sgn; split <;> omega
theorem sgn_shift {x : Nat} (h : x < 4294967296) : -67108864 ≤ sgn x / 32 ∧ sgn x / 32 ≤ 67108863 := by unfold sgn; split <;> omega
theorem sgn_shift_low {x : Nat} (h : x < 4294967296) : lowN (sgn x / 32) % 134217728 = x / 32 := by unfold lowN sgn; split <;> omega
theorem hexN_le (h : Bool) : hexN h ≤ 16 := by cases h <;> decide
theorem tagW_le (k : Int) : tagW k ≤ 15 := by unfold tagW; (repeat' split) <;> omega
theorem kindT_le (t : Nat) : kindT t ≤ 6 := by unfold kindT; (repeat' split) <;> omega
theorem kindT_tag {t : Nat} (h : 0 ≤ kindT t) : tagW (kindT t) = t ∧ 1 ≤ kindT t ∧ t < 16 ∧ t ≠ 0 ∧ t ≠ 8 ∧ t ≠ 6 ∧ t ≠ 2 ∧ t ≠ 5 ∧ t ≠ 12 := by
  unfold kindT at h ⊢
  (repeat' split at h) <;> simp_all [tagW]
theorem wordCells_len (t : Nat) (l : List Nat) : (wordCells t l).length = l.length := by cases l <;> simp [wordCells]
theorem varCells_len (l : List Nat) (n : Int) : (varCells l n).length ≤ 2 := by
  match l with
  | [] => exact Nat.zero_le _
  | [f] => exact Nat.le_refl _
  | _ :: _ :: _ => exact Nat.zero_le _
theorem numCells_len (n : Int) (h : Bool) (s l : Nat) : (numCells n h s l).length ≤ 2 := by unfold numCells; split <;> simp
theorem cellsOf_len (it : It) : (cellsOf it).length ≤ 24 := by
  unfold cellsOf
  have h1 := varCells_len (packs it.name.data.toList) it.n
  have h2 := numCells_len it.n it.hex (shortOf it.kind) (longOf it.kind)
  have h3 := wordCells_len (tagW it.kind) (packs it.name.data.toList)
  have h4 := (packs_len it.name.data.toList).2
  (repeat' split) <;> simp_all <;> omega
theorem wordCells_small {t : Nat} (ht : t ≤ 15) {l : List Nat} (h : ∀ f ∈ l, f < 2 ^ 28) : ∀ c ∈ wordCells t l, c < 4294967296 := by
  cases l with
  | nil => exact fun c hc => absurd hc List.not_mem_nil
  | cons f r =>
    intro c hc
    rcases List.mem_cons.1 hc with rfl | hc
    · have := h f (by simp); omega
    · obtain ⟨x, hx, rfl⟩ := List.mem_map.1 hc
      have := h x (by simp [hx]); omega
theorem varCells_small {l : List Nat} (h : ∀ f ∈ l, f < 2 ^ 28) (n : Int) : ∀ c ∈ varCells l n, c < 4294967296 := by
  match l with
  | [] => exact fun c hc => absurd hc List.not_mem_nil
  | [f] =>
    intro c hc
    have := h f (by simp)
    have := lowN_lt n
    simp [varCells] at hc
    omega
  | _ :: _ :: _ => exact fun c hc => absurd hc List.not_mem_nil
theorem numCells_small (n : Int) (h : Bool) (k : Int) : ∀ c ∈ numCells n h (shortOf k) (longOf k), c < 4294967296 := by
  have h1 := hexN_le h
  have h2 := lowN_lt n
  have h3 : shortOf k ≤ 8 := by unfold shortOf; split <;> omega
  have h4 : longOf k ≤ 5 := by unfold longOf; split <;> omega
  intro c hc
  unfold numCells at hc
  split at hc <;> simp at hc <;> omega
theorem cellsOf_small {it : It} (hr : it.raw < 4294967296) : ∀ c ∈ cellsOf it, c < 4294967296 := by
  have h1 := varCells_small (packs_small it.name.data.toList) it.n
  have h2 := numCells_small it.n it.hex it.kind
  have h3 := wordCells_small (tagW_le it.kind) (packs_small it.name.data.toList)
  unfold cellsOf
  (repeat' split) <;> first | assumption | (intro c hc; simp at hc; omega) | (intro c hc; exact absurd hc List.not_mem_nil)

theorem cellsOf_raw (c : Nat) : cellsOf (rawIt c) = [c] := by simp [cellsOf, rawIt, noText]

end Go.Proofs.YtllhcdkbgknjdaaDoor
