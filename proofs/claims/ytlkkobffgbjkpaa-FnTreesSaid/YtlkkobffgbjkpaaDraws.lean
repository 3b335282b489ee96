/-
  The model's cursor and its draws: numbers, texts, names; the bytes that come in.
-/
import Derived.Test.YtlkkobffgbjkpaaKit
import Derived.Test.YtlkkobffgbjkpaaBlk
import Derived.Test.YtlkkobffgbjkpaaLaw
import Derived.Laws.BitsAllLaws
import Derived.Laws.BitsLemmas
import Derived.BigCall
import Derived.BigGuard
import Derived.Test.YtlkkobffgbjkpaaU32
import Derived.Test.YtlkkobffgbjkpaaPackMath
import Derived.Laws.BytesArg
import Derived.Test.YtlkkobffgbjkpaaU8
import Derived.Test.YtlkkobffgbjkpaaLetters2
import Derived.OwnWalk
namespace Go.Proofs.Ytlkkobffgbjkpaa
open Go.RowKit

/-- The bytes of a slice that came in. -/
def CodeOk (w : World) (B : Nat) (A : Option Addr) (len : Nat) : Prop :=
  len ≤ 9223372036854775807 ∧ ∀ j, j < len → ∃ ad z, A = some ad ∧ ad.block < B ∧ 0 ≤ z ∧ z ≤ 255 ∧ w.cell? (ad.add j) = some (.int .u8 z)
theorem addr_add_block (a : Addr) (n : Nat) : (a.add n).block = a.block := by unfold Addr.add; split <;> rfl
theorem CodeOk.keep {w w' : World} {B len : Nat} {A : Option Addr} (h : CodeOk w B A len) (hk : ∀ p : Addr, p.block < B → w'.cell? p = w.cell? p) : CodeOk w' B A len :=
  ⟨h.1, fun j hj => by obtain ⟨ad, z, e, hb, h0, h1, hc⟩ := h.2 j hj; exact ⟨ad, z, e, hb, h0, h1, (hk _ (by rw [addr_add_block]; exact hb)).trans hc⟩⟩
theorem CodeOk.more {w : World} {B B' len : Nat} {A : Option Addr} (h : CodeOk w B A len) (hB : B ≤ B') : CodeOk w B' A len :=
  ⟨h.1, fun j hj => by obtain ⟨ad, z, e, hb, r⟩ := h.2 j hj; exact ⟨ad, z, e, by omega, r⟩⟩
theorem CodeOk.below {w w' : World} {B len : Nat} {A : Option Addr} (h : CodeOk w B A len) (hb : Below B w w') : CodeOk w' B A len := h.keep fun _ hp => hb.cell hp

/-- Block g is a cursor. -/
def CurAt (w : World) (g : Nat) : Prop :=
  ∃ (A : Option Addr) (len cap : Nat) (i : Nat) (h : Int), Blk w g 122 #[.slice A len cap, .int .i64 i, .int .i64 h] ∧ i ≤ len ∧ CodeOk w g A len
theorem CurAt.grown {w w' : World} {g : Nat} {row : Option Nat} (h : CurAt w g) (hg : w.grownBy w' row) (hr : ∀ k, row = some k → g < k) : CurAt w' g := by
  obtain ⟨A, len, cap, i, x, hb, hi, hc⟩ := h
  have hlt := hb.lt
  refine ⟨A, len, cap, i, x, hb.grown hg (fun e => by have := hr g e.symm; omega), hi, hc.keep fun p hp => World.cell?_of_block (hg.block p.block (by omega) (fun e => by have := hr _ e.symm; omega))⟩
theorem CurAt.below {w w' : World} {g : Nat} (h : CurAt w g) (hb : Below w.heap.size w w') : CurAt w' g := by
  obtain ⟨A, len, cap, i, x, hk, hi, hc⟩ := h
  exact ⟨A, len, cap, i, x, hk.below hb hk.lt, hi, hc.keep fun p hp => hb.cell (by have := hk.lt; omega)⟩

theorem and255 (y : Int) : 0 ≤ bits .and .i64 y 255 ∧ bits .and .i64 y 255 ≤ 255 := by
  have h : bits .and .i64 y 255 = IntKind.i64.wrap ((BitVec.ofInt 64 y &&& BitVec.ofInt 64 255).toNat : Int) := rfl
  have hle : (BitVec.ofInt 64 y &&& BitVec.ofInt 64 255).toNat ≤ 255 := by
    rw [BitVec.toNat_and]
    exact Nat.le_trans Nat.and_le_right (by decide)
  rw [h, IntKind.wrap_i64]
  omega

/-- What comes of a step of the cursor: a byte; only block g has changed. -/
def Drew (g : Nat) (w : World) (lo hi : Int) (e : Ending) (w' : World) : Prop := ∃ x : Int, e = .returned (.int .i64 x) ∧ (lo ≤ x ∧ x ≤ hi) ∧ CurAt w' g ∧ w.grownBy w' (some g)

set_option maxRecDepth 100000 in
set_option maxHeartbeats 2000000 in
theorem byte_any (g : Nat) (w : World) (hc : CurAt w g) : Calls Try.prog 100 #[.pointer (some ⟨g, 0, none⟩)] w (Drew g w 0 255) := by
  obtain ⟨A, len, cap, i, h, hb, hi, hcode⟩ := hc
  have c0 := hb.cell 0
  have c1 := hb.cell 1
  have c2 := hb.cell 2
  have f1 := hb.frozen 1
  have f2 := hb.frozen 2
  simp at c0 c1 c2
  have HB := Lib.hid hb
  have HC := Lib.hid hcode
  clear hb hcode
  go_enter Try.func100, Try.ntmps100
  go_wp2
  obtain ⟨h2, hh⟩ : ∃ h2, wrap64 (wrap64 (h * 6364136223846793005) + 1442695040888963407) = h2 := ⟨_, rfl⟩
  rw [hh]
  have hb1 := HB.out.put 2 (.int .i64 h2)
  have hg1 : w.grownBy (w.setCell ⟨g, 2, none⟩ (.int .i64 h2)) (some g) := only_setCell (World.grownBy.refl w _) (.inl rfl) _
  have hcd1 : CodeOk (w.setCell ⟨g, 2, none⟩ (.int .i64 h2)) g A len := HC.out.keep fun p hp => World.cell?_setCell_other w ⟨g, 2, none⟩ p _ (fun e => by subst e; simp at hp)
  obtain ⟨W1, hW⟩ : ∃ W1, w.setCell ⟨g, 2, none⟩ (.int .i64 h2) = W1 := ⟨_, rfl⟩
  rw [hW] at hb1 hg1 hcd1 ⊢
  clear hW hh c0 c1 c2 f1 f2 HB HC
  simp at hb1
  have c0 := hb1.cell 0
  have c1 := hb1.cell 1
  have c2 := hb1.cell 2
  have f1 := hb1.frozen 1
  simp at c0 c1 c2
  have HB := Lib.hid hb1
  have HG := Lib.hid hg1
  have HC := Lib.hid hcd1
  clear hb1 hg1 hcd1
  go_quiet (fail)
  go_wp2
  have hx := and255 (bits BinOp.xor IntKind.i64 (h2 / 8589934592) (h2 / 35184372088832))
  obtain ⟨x0, hx0⟩ : ∃ x0, bits BinOp.and IntKind.i64 (bits BinOp.xor IntKind.i64 (h2 / 8589934592) (h2 / 35184372088832)) 255 = x0 := ⟨_, rfl⟩
  rw [hx0] at hx ⊢
  clear hx0
  obtain ⟨hx0, hx1⟩ := hx
  by_cases hlt : i < len
  · have hlt' : (i : Int) < (len : Int) := by omega
    have hlen := HC.out.1
    obtain ⟨ad, z, hA, hadb, hz0, hz1, hz⟩ := HC.out.2 i hlt
    subst hA
    go_quiet (fail)
    go_wp2
    go_quiet (fail)
    go_wp2
    have hy := and255 (x0 + z)
    go_ret
    have hb2 : ∀ m, Blk ((W1.drewN m).setCell ⟨g, 1, none⟩ (.int .i64 ((i : Int) + 1))) g 122 #[.slice (some ad) len cap, .int .i64 ((i : Int) + 1), .int .i64 h2] := fun m => by
      have h := Blk.put (w := W1.drewN m) HB.out 1 (.int .i64 ((i : Int) + 1))
      simpa using h
    exact ⟨_, rfl, hy, ⟨some ad, len, cap, i + 1, h2, hb2 _, by omega, HC.out.keep fun p hp => World.cell?_setCell_other (W1.drewN _) ⟨g, 1, none⟩ p _ (fun e => by subst e; simp at hp)⟩, only_setCell (only_drewN HG.out _) (.inl rfl) _⟩
  · have hlt' : (len : Int) ≤ (i : Int) := by omega
    go_quiet (fail)
    go_wp2
    go_ret
    exact ⟨x0, rfl, ⟨hx0, hx1⟩, ⟨A, len, cap, i, h2, HB.out, hi, HC.out⟩, only_drewN (only_drewN HG.out _) _⟩

/-- A number of 0 .. n-1 is drawn; 0 where n is not above 0. -/
theorem below_any (g : Nat) (n : Int) (h0 : -9223372036854775808 ≤ n) (h1 : n ≤ 9223372036854775807) (w : World) (hc : CurAt w g) : Calls Try.prog 48 #[.pointer (some ⟨g, 0, none⟩), .int .i64 n] w (Drew g w 0 (if n ≤ 0 then 0 else n - 1)) := by
  have HC := Lib.hid hc
  clear hc
  by_cases hn : n ≤ 0
  · rw [if_pos hn]
    have HN := Lib.hid hn
    go_enter Try.func48, Try.ntmps48
    go_wp2
    go_ret
    exact ⟨0, rfl, ⟨by omega, by omega⟩, HC.out, World.grownBy.refl _ _⟩
  · rw [if_neg hn]
    by_cases h256 : n ≤ 256
    · have hn' : 0 < n := by omega
      clear hn
      go_enter Try.func48, Try.ntmps48
      go_wp2_with (go_at_call 100; refine (byte_any g _ HC.out).mono ?_; rintro e w' ⟨x, rfl, ⟨hx0, hx1⟩, hc2, hg2⟩)
      go_ret
      exact ⟨_, rfl, ⟨Int.emod_nonneg _ (by omega), by have := Int.emod_lt_of_pos x hn'; omega⟩, hc2, hg2⟩
    · have hn' : 256 < n := by omega
      clear hn h256
      go_enter Try.func48, Try.ntmps48
      go_wp2_with fail
      refine (byte_any g _ HC.out).mono ?_
      rintro e w1 ⟨x1, rfl, ⟨hx10, hx11⟩, hc1, hg1⟩
      go_wp2_with fail
      refine (byte_any g _ hc1).mono ?_
      rintro e w2 ⟨x2, rfl, ⟨hx20, hx21⟩, hc2, hg2⟩
      go_wp2_with fail
      refine (byte_any g _ hc2).mono ?_
      rintro e w3 ⟨x3, rfl, ⟨hx30, hx31⟩, hc3, hg3⟩
      go_wp2_with fail
      refine (byte_any g _ hc3).mono ?_
      rintro e w4 ⟨x4, rfl, ⟨hx40, hx41⟩, hc4, hg4⟩
      go_wp2_with fail
      go_ret
      exact ⟨_, rfl, ⟨Int.emod_nonneg _ (by omega), by have := Int.emod_lt_of_pos (x1 * 16777216 + x2 * 65536 + x3 * 256 + x4) (show 0 < n by omega); omega⟩, hc4, only_trans (only_trans (only_trans hg1 hg2) hg3) hg4⟩
end Go.Proofs.Ytlkkobffgbjkpaa

namespace Go.Proofs.Ytlkkobffgbjkpaa
open Go.RowKit

/-- What comes of making a cursor: a pointer to a block of the call's own. -/
def Made (w : World) (e : Ending) (w' : World) : Prop := ∃ g : Nat, e = .returned (.pointer (some ⟨g, 0, none⟩)) ∧ w.heap.size ≤ g ∧ CurAt w' g ∧ Below w.heap.size w w'

set_option maxHeartbeats 1000000 in
theorem new_any (A : Option Addr) (len cap : Nat) (w : World) (hcode : CodeOk w w.heap.size A len) : Calls Try.prog 41 #[.slice A len cap] w (Made w) := by
  have hlen := hcode.1
  have HC := Lib.hid hcode
  clear hcode
  go_enter Try.func41, Try.ntmps41
  go_wp2
  go_loop [3, 4] (fun h i => ∃ (k : Nat) (x : Int), k ≤ len ∧ i = .int .i64 k ∧ h = .int .i64 x) (fun _ i => len - (intOf i).toNat)
  case atStart => exact ⟨0, _, by omega, rfl, rfl⟩
  case round =>
    obtain ⟨k, x, hk, rfl, rfl⟩ := hrel
    by_cases hks : k < len
    · obtain ⟨ad, z, hA, hadb, hz0, hz1, hz⟩ := HC.out.2 k hks
      subst hA
      by_cases h4 : k < 4000
      · have h4' : decide ((k : Int) < 4000) = true := by simp; omega
        go_wp2
        go_round
        case rel => exact ⟨k + 1, _, by omega, by go_num, rfl⟩
        case measure => simp [intOf]; omega
      · have h4' : decide ((k : Int) < 4000) = false := by simp; omega
        go_wp2
        go_ret
        exact ⟨w.heap.size, rfl, Nat.le_refl _, ⟨some ad, len, cap, 0, _, Blk.new _ _ _, by omega, HC.out.below ((Below.refl _ _).alloc (Nat.le_refl _) _)⟩, (Below.refl _ _).alloc (Nat.le_refl _) _⟩
    · have hks' : decide ((k : Int) < (len : Int)) = false := by simp; omega
      go_wp2
      go_ret
      exact ⟨w.heap.size, rfl, Nat.le_refl _, ⟨A, len, cap, 0, _, Blk.new _ _ _, by omega, HC.out.below ((Below.refl _ _).alloc (Nat.le_refl _) _)⟩, (Below.refl _ _).alloc (Nat.le_refl _) _⟩
end Go.Proofs.Ytlkkobffgbjkpaa

namespace Go.Proofs.Ytlkkobffgbjkpaa
open Go.RowKit

/-- A block of numbers. -/
def IntsAt (w : World) (b : Nat) (zs : List Int) : Prop := ∀ j (h : j < zs.length), w.cell? ⟨b, j, none⟩ = some (.int .i64 zs[j])
theorem ints_new (w : World) (t : TypeId) (zs : List Int) : IntsAt (w.alloc (.cells (zs.map (Value.int .i64)).toArray t)) w.heap.size zs := fun j h => by
  rw [(Blk.new w t _).cell]
  simp [h]
def Picked (g : Nat) (w : World) (zs : List Int) (e : Ending) (w' : World) : Prop := ∃ x : Int, e = .returned (.int .i64 x) ∧ x ∈ zs ∧ CurAt w' g ∧ w.grownBy w' (some g)
theorem pickint_any (g b : Nat) (zs : List Int) (w : World) (hc : CurAt w g) (hl : IntsAt w b zs) (hb : b ≠ g) (hblt : b < w.heap.size) (hn : 1 ≤ zs.length) (hn2 : zs.length ≤ 1000) :
    Calls Try.prog 92 #[.pointer (some ⟨g, 0, none⟩), .slice (some ⟨b, 0, none⟩) zs.length zs.length] w (Picked g w zs) := by
  have HC := Lib.hid (below_any g (zs.length : Int) (by omega) (by omega) w hc)
  have HL := Lib.hid hl
  have HN := Lib.hid hb
  clear hc hl hb
  go_enter Try.func92, Try.ntmps92
  go_wp2_with fail
  refine HC.out.mono ?_
  rintro e w1 ⟨x, rfl, ⟨hx0, hx1⟩, hc1, hg1⟩
  rw [if_neg (by omega)] at hx1
  obtain ⟨j, rfl⟩ : ∃ j : Nat, x = j := ⟨x.toNat, by omega⟩
  have hj : j < zs.length := by omega
  have hcell : w1.cell? ⟨b, j, none⟩ = some (.int .i64 zs[j]) := (World.cell?_of_block (hg1.block b hblt (fun e => HN.out (by injection e)))).trans (HL.out j hj)
  have HG := Lib.hid hg1
  go_wp2_with fail
  go_ret
  exact ⟨zs[j], rfl, List.getElem_mem _, hc1, HG.out⟩

def DrewWord (g : Nat) (w : World) (e : Ending) (w' : World) : Prop := ∃ x : Nat, e = .returned (.int .u32 x) ∧ x < 4294967296 ∧ CurAt w' g ∧ w.grownBy w' (some g)
theorem u32_nat (x : Int) : ∃ n : Nat, IntKind.u32.wrap x = (n : Int) ∧ n < 4294967296 := ⟨(x % 4294967296).toNat, by rw [IntKind.wrap_u32]; omega, by omega⟩

theorem ret_u32 {a b : Int} (h : a = b) : Ending.returned (.int .u32 a) = .returned (.int .u32 b) := by rw [h]
end Go.Proofs.Ytlkkobffgbjkpaa

namespace Go.Proofs.Ytlkkobffgbjkpaa
open Go.RowKit

/-- A block of texts. -/
def StrsAt (w : World) (b : Nat) (zs : List ByteArray) : Prop := ∀ j (h : j < zs.length), w.cell? ⟨b, j, none⟩ = some (.string zs[j])
theorem strs_new (w : World) (t : TypeId) (zs : List ByteArray) : StrsAt (w.alloc (.cells (zs.map Value.string).toArray t)) w.heap.size zs := fun j h => by
  rw [(Blk.new w t _).cell]
  simp [h]
def PickedS (g : Nat) (w : World) (zs : List ByteArray) (e : Ending) (w' : World) : Prop := ∃ x : ByteArray, e = .returned (.string x) ∧ x ∈ zs ∧ CurAt w' g ∧ w.grownBy w' (some g)
end Go.Proofs.Ytlkkobffgbjkpaa

namespace Go.Proofs.Ytlkkobffgbjkpaa
open Go.RowKit Go

end Go.Proofs.Ytlkkobffgbjkpaa

namespace Go.Proofs.Ytlkkobffgbjkpaa
open Go.RowKit Go

theorem once_any (g : Nat) (n : Nat) (h1 : n ≤ 1000) (w : World) (hc : CurAt w g) : Calls Try.prog 102 #[.pointer (some ⟨g, 0, none⟩), .int .i64 (n : Int)] w fun e w' => ∃ b : Bool, e = .returned (.bool b) ∧ CurAt w' g ∧ w.grownBy w' (some g) := by
  have HC := Lib.hid (below_any g (n : Int) (by omega) (by omega) w hc)
  clear hc
  go_enter Try.func102, Try.ntmps102
  go_wp2_with fail
  refine HC.out.mono ?_
  rintro e w1 ⟨x, rfl, -, hc1, hg1⟩
  have HG := Lib.hid hg1
  have HC1 := Lib.hid hc1
  clear hg1 hc1
  go_wp2_with fail
  go_ret
  exact ⟨_, rfl, HC1.out, HG.out⟩
theorem cur_lt {w : World} {g : Nat} (h : CurAt w g) : g < w.heap.size := by
  obtain ⟨_, _, _, _, _, hb, _⟩ := h
  exact hb.lt
theorem only_app {w wr w1 : World} {g : Nat} {row : Option Nat} (h : w.grownBy wr (some g)) (hg : wr.grownBy w1 row) (hr : ∀ k, row = some k → w.heap.size ≤ k) : w.grownBy w1 (some g) :=
  ⟨hg.os.trans h.os, hg.tape.trans h.tape, hg.output.trans h.output, Nat.le_trans h.size hg.size, fun i hi hne => (hg.block i (Nat.lt_of_lt_of_le hi h.size) (fun e => by have := hr i e.symm; omega)).trans (h.block i hi hne)⟩
theorem own_ne {w : World} {base : Nat} {e : TypeId} {size : Nat} {v : Value} {n : Nat} {xs : List Value} {g : Nat} (h : w.ownsRow base e size v n xs) (hg : g < base) : v.ownBlock = none ∨ v.ownBlock ≠ some g :=
  .inr (fun e => by have := own_lt h g e; omega)
/-- A name is drawn, of at most nine bytes. -/
def NamedS (g : Nat) (w : World) (e : Ending) (w' : World) : Prop := ∃ s : ByteArray, e = .returned (.string s) ∧ s.size ≤ 9 ∧ CurAt w' g ∧ w.grownBy w' (some g)
def drawnNames : List ByteArray := [⟨#[100, 117, 112]⟩, ⟨#[111, 118, 101, 114]⟩, ⟨#[115, 113, 117, 97, 114, 101]⟩, ⟨#[97, 33]⟩, ⟨#[50, 42]⟩, ⟨#[103, 111]⟩, ⟨#[45, 105, 102]⟩, ⟨#[59]⟩, ⟨#[63]⟩, ⟨#[114, 114, 114, 114, 114, 114, 114]⟩, ⟨#[114, 116, 111, 101, 97, 110, 105]⟩, ⟨#[119, 119, 119, 119, 119, 119]⟩, ⟨#[113, 113, 113, 113, 113]⟩, ⟨#[120]⟩]
theorem drawnNames_size : ∀ x ∈ drawnNames, x.size ≤ 9 := by decide

end Go.Proofs.Ytlkkobffgbjkpaa

namespace Go.Proofs.Ytlkkobffgbjkpaa
open Go.ChangeShapes Go.WideShapes Go.ChangeAt Go.RowKit

theorem lt_of_cell_any {w : World} {a : Addr} {v : Value} (h : w.cell? a = some v) : a.block < w.heap.size := by
  rcases Nat.lt_or_ge a.block w.heap.size with hl | hl
  · exact hl
  · have e : w.heap[a.block]? = none := Array.getElem?_eq_none hl
    simp [World.cell?, e] at h
theorem code_of {H : Type} {enc : TypeId × Value → H} {P : Program} {W : World} {t e : TypeId} {A : Option Addr} {len cap : Nat} {d : DataW H} {p : List MemPlace}
    (ht : P.underlying t = some (.slice e)) (he : P.underlying e = some (.int .u8)) (hc : P.cellsOf e = 1) (h : DataW.Trod enc P W 0 (fun _ => true) true t (.slice A len cap) d p) : CodeOk W W.heap.size A len := by
  obtain ⟨fuel, hf⟩ := h
  rcases open_ints ht he hc hf with ⟨hcs, -⟩ | ⟨a, len', cap', zs, hcs, -, hl, hm, hz, -, hcell, hwz⟩
  · have hcs' : (Value.slice A len cap) = .slice none 0 0 := by simpa [Value.cells] using hcs
    injection hcs' with h1 h2 h3
    subst h1 h2 h3
    exact ⟨by omega, fun j hj => by omega⟩
  · have hcs' : (Value.slice A len cap) = .slice (some a) len' cap' := by simpa [Value.cells] using hcs
    injection hcs' with h1 h2 h3
    subst h1 h2 h3
    unfold maxLen at hm
    simp at hz
    refine ⟨by omega, fun j hj => ?_⟩
    have h1 := hcell j (by omega)
    have h2 := lt_of_cell_any h1
    rw [addr_add_block] at h2
    have hmem : zs.getD j 0 ∈ zs := by
      have e : zs.getD j 0 = zs[j]'(by omega) := by simp [List.getD, List.getElem?_eq_getElem (show j < zs.length by omega)]
      rw [e]
      exact List.getElem_mem _
    have hw := hwz _ hmem
    have hb : 0 ≤ zs.getD j 0 ∧ zs.getD j 0 ≤ 255 := by
      simpa [Lit.wf, IntKind.min, IntKind.max, IntKind.signed, IntKind.bits] using hw
    exact ⟨a, zs.getD j 0, rfl, h2, hb.1, hb.2, h1⟩
end Go.Proofs.Ytlkkobffgbjkpaa

namespace Go.Proofs.Ytlkkobffgbjkpaa
open Go.RowKit Go

theorem big_any (A : Option Addr) (len cap : Nat) (w : World) : Calls Try.prog 9 #[.slice A len cap] w fun e w' => e = .returned (.bool (decide (1048576 < (len : Int)))) ∧ w = w' := by
  go_enter Try.func9, Try.ntmps9
  go_wp2
  go_ret
  exact ⟨rfl, rfl⟩
/-- A byte of the code, or a number that follows from its length. -/
def AByte (w : World) (e : Ending) (w' : World) : Prop := ∃ x : Nat, e = .returned (.int .i64 x) ∧ x ≤ 255 ∧ w = w'
end Go.Proofs.Ytlkkobffgbjkpaa
