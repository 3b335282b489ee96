/-
  The model's cursor and its draws: numbers, texts, names; the bytes that come in.
  Bodies as lists of pairs: which ops are right, what they leave open.
  Trees as plain data: how many they are, their ops in order, what a body has.
  Trees as ops: which trees a body may have.
  Append as a law: onto a row of the call's own, from a list that can be read, nil or not; with a word on where the result lies.
  A copy of a list of numbers of 32 bits.
  What lists of any kind of number have in common.
  Lists of signed numbers (int32): a copy of one, whether two are alike, the marks that are laid into one, whether they lie there.
  Stores as values; the laws' own helpers on stores.
  What the exact laws ask of lists and stores, in the shape in which they ask it.
-/
import Derived.Test.YtofikgjoiidhmaaGreatDoorCD1
import Derived.Laws.BitsAllLaws
import Derived.Laws.BitsLemmas
import Derived.BigCall
import Derived.BigGuard
import Derived.Laws.BytesArg
import Derived.OwnWalk
import Derived.Deep.DeepAppendRoom
import Derived.Deep.AppendSrc
import Derived.Deep.Onto
import Derived.Handy
import Derived.Lib.SmallJoins
import Derived.Deep.RegionHeld3
namespace Go.Proofs.YtofikgjoiidhmaaGreatDoor
open Go.RowKit

/-- The bytes of a slice that came in. -/
def CodeOk (w : World) (B : Nat) (A : Option Addr) (len : Nat) : Prop :=
  len ≤ 9223372036854775807 ∧ ∀ j, j < len → ∃ ad z, A = some ad ∧ ad.block < B ∧ 0 ≤ z ∧ z ≤ 255 ∧ w.cell? (ad.add j) = some (.int .u8 z)
theorem addr_add_block (a : Addr) (n : Nat) : (a.add n).block = a.block := by unfold Addr.add; split <;> rfl
theorem CodeOk.keep {w w' : World} {B len : Nat} {A : Option Addr} (h : CodeOk w B A len) (hk : ∀ p : Addr, p.block < B → w'.cell? p = w.cell? p) : CodeOk w' B A len :=
  ⟨h.1, fun j hj => by obtain ⟨ad, z, e, hb, h0, h1, hc⟩ := h.2 j hj; exact ⟨ad, z, e, hb, h0, h1, (hk _ (by rw [addr_add_block]; exact hb)).trans hc⟩⟩
theorem CodeOk.more {w : World} {B B' len : Nat} {A : Option Addr} (h : CodeOk w B A len) (hB : B ≤ B') : CodeOk w B' A len :=
  ⟨h.1, fun j hj => by obtain ⟨ad, z, e, hb, r⟩ := h.2 j hj; exact ⟨ad, z, e, by omega, r⟩⟩
theorem CodeOk.below {w w' : World} {B len : Nat} {A : Option Addr} (h : CodeOk w B A len) (hb : Below B w w') : CodeOk w' B A len := h.keep fun _ hp => hb.cell hp

/-- Block g is a cursor. -/
def CurAt (w : World) (g : Nat) : Prop :=
  ∃ (A : Option Addr) (len cap : Nat) (i : Nat) (h : Int), Blk w g 109 #[.slice A len cap, .int .i64 i, .int .i64 h] ∧ i ≤ len ∧ CodeOk w g A len
theorem CurAt.grown {w w' : World} {g : Nat} {row : Option Nat} (h : CurAt w g) (hg : w.grownBy w' row) (hr : ∀ k, row = some k → g < k) : CurAt w' g := by
  obtain ⟨A, len, cap, i, x, hb, hi, hc⟩ := h
  have hlt := hb.lt
  refine ⟨A, len, cap, i, x, hb.grown hg (fun e => by have := hr g e.symm; omega), hi, hc.keep fun p hp => World.cell?_of_block (hg.block p.block (by omega) (fun e => by have := hr _ e.symm; omega))⟩
theorem CurAt.below {w w' : World} {g : Nat} (h : CurAt w g) (hb : Below w.heap.size w w') : CurAt w' g := by
  obtain ⟨A, len, cap, i, x, hk, hi, hc⟩ := h
  exact ⟨A, len, cap, i, x, hk.below hb hk.lt, hi, hc.keep fun p hp => hb.cell (by have := hk.lt; omega)⟩

theorem and255 (y : Int) : 0 ≤ bits .and .i64 y 255 ∧ bits .and .i64 y 255 ≤ 255 := by
  have h : bits .and .i64 y 255 = IntKind.i64.wrap ((BitVec.ofInt 64 y &&& BitVec.ofInt 64 255).toNat : Int) := rfl
  have hle : (BitVec.ofInt 64 y &&& BitVec.ofInt 64 255).toNat ≤ 255 := by
    rw [BitVec.toNat_and]
    exact Nat.le_trans Nat.and_le_right (by decide)
  rw [h, IntKind.wrap_i64]
  omega

/-- What comes of a step of the cursor: a byte; only block g has changed. -/
def Drew (g : Nat) (w : World) (lo hi : Int) (e : Ending) (w' : World) : Prop := ∃ x : Int, e = .returned (.int .i64 x) ∧ (lo ≤ x ∧ x ≤ hi) ∧ CurAt w' g ∧ w.grownBy w' (some g)

set_option maxRecDepth 100000 in
set_option maxHeartbeats 2000000 in
theorem byte_any (g : Nat) (w : World) (hc : CurAt w g) : Calls Tryz.prog 90 #[.pointer (some ⟨g, 0, none⟩)] w (Drew g w 0 255) := by
  obtain ⟨A, len, cap, i, h, hb, hi, hcode⟩ := hc
  have c0 := hb.cell 0
  have c1 := hb.cell 1
  have c2 := hb.cell 2
  have f1 := hb.frozen 1
  have f2 := hb.frozen 2
  simp at c0 c1 c2
  have HB := Lib.hid hb
  have HC := Lib.hid hcode
  clear hb hcode
  go_enter Tryz.func90, Tryz.ntmps90
  go_wp2
  obtain ⟨h2, hh⟩ : ∃ h2, wrap64 (wrap64 (h * 6364136223846793005) + 1442695040888963407) = h2 := ⟨_, rfl⟩
  rw [hh]
  have hb1 := HB.out.put 2 (.int .i64 h2)
  have hg1 : w.grownBy (w.setCell ⟨g, 2, none⟩ (.int .i64 h2)) (some g) := only_setCell (World.grownBy.refl w _) (.inl rfl) _
  have hcd1 : CodeOk (w.setCell ⟨g, 2, none⟩ (.int .i64 h2)) g A len := HC.out.keep fun p hp => World.cell?_setCell_other w ⟨g, 2, none⟩ p _ (fun e => by subst e; simp at hp)
  obtain ⟨W1, hW⟩ : ∃ W1, w.setCell ⟨g, 2, none⟩ (.int .i64 h2) = W1 := ⟨_, rfl⟩
  rw [hW] at hb1 hg1 hcd1 ⊢
  clear hW hh c0 c1 c2 f1 f2 HB HC
  simp at hb1
  have c0 := hb1.cell 0
  have c1 := hb1.cell 1
  have c2 := hb1.cell 2
  have f1 := hb1.frozen 1
  simp at c0 c1 c2
  have HB := Lib.hid hb1
  have HG := Lib.hid hg1
  have HC := Lib.hid hcd1
  clear hb1 hg1 hcd1
  go_quiet (fail)
  go_wp2
  have hx := and255 (bits BinOp.xor IntKind.i64 (h2 / 8589934592) (h2 / 35184372088832))
  obtain ⟨x0, hx0⟩ : ∃ x0, bits BinOp.and IntKind.i64 (bits BinOp.xor IntKind.i64 (h2 / 8589934592) (h2 / 35184372088832)) 255 = x0 := ⟨_, rfl⟩
  rw [hx0] at hx ⊢
  clear hx0
  obtain ⟨hx0, hx1⟩ := hx
  by_cases hlt : i < len
  · have hlt' : (i : Int) < (len : Int) := by omega
    have hlen := HC.out.1
    obtain ⟨ad, z, hA, hadb, hz0, hz1, hz⟩ := HC.out.2 i hlt
    subst hA
    go_quiet (fail)
    go_wp2
    go_quiet (fail)
    go_wp2
    have hy := and255 (x0 + z)
    go_ret
    have hb2 : ∀ m, Blk ((W1.drewN m).setCell ⟨g, 1, none⟩ (.int .i64 ((i : Int) + 1))) g 109 #[.slice (some ad) len cap, .int .i64 ((i : Int) + 1), .int .i64 h2] := fun m => by
      have h := Blk.put (w := W1.drewN m) HB.out 1 (.int .i64 ((i : Int) + 1))
      simpa using h
    exact ⟨_, rfl, hy, ⟨some ad, len, cap, i + 1, h2, hb2 _, by omega, HC.out.keep fun p hp => World.cell?_setCell_other (W1.drewN _) ⟨g, 1, none⟩ p _ (fun e => by subst e; simp at hp)⟩, only_setCell (only_drewN HG.out _) (.inl rfl) _⟩
  · have hlt' : (len : Int) ≤ (i : Int) := by omega
    go_quiet (fail)
    go_wp2
    go_ret
    exact ⟨x0, rfl, ⟨hx0, hx1⟩, ⟨A, len, cap, i, h2, HB.out, hi, HC.out⟩, only_drewN (only_drewN HG.out _) _⟩

/-- A number of 0 .. n-1 is drawn; 0 where n is not above 0. -/
theorem below_any (g : Nat) (n : Int) (h0 : -9223372036854775808 ≤ n) (h1 : n ≤ 9223372036854775807) (w : World) (hc : CurAt w g) : Calls Tryz.prog 43 #[.pointer (some ⟨g, 0, none⟩), .int .i64 n] w (Drew g w 0 (if n ≤ 0 then 0 else n - 1)) := by
  have HC := Lib.hid hc
  clear hc
  by_cases hn : n ≤ 0
  · rw [if_pos hn]
    have HN := Lib.hid hn
    go_enter Tryz.func43, Tryz.ntmps43
    go_wp2
    go_ret
    exact ⟨0, rfl, ⟨by omega, by omega⟩, HC.out, World.grownBy.refl _ _⟩
  · rw [if_neg hn]
    by_cases h256 : n ≤ 256
    · have hn' : 0 < n := by omega
      clear hn
      go_enter Tryz.func43, Tryz.ntmps43
      go_wp2_with (go_at_call 90; refine (byte_any g _ HC.out).mono ?_; rintro e w' ⟨x, rfl, ⟨hx0, hx1⟩, hc2, hg2⟩)
      go_ret
      exact ⟨_, rfl, ⟨Int.emod_nonneg _ (by omega), by have := Int.emod_lt_of_pos x hn'; omega⟩, hc2, hg2⟩
    · have hn' : 256 < n := by omega
      clear hn h256
      go_enter Tryz.func43, Tryz.ntmps43
      go_wp2_with fail
      refine (byte_any g _ HC.out).mono ?_
      rintro e w1 ⟨x1, rfl, ⟨hx10, hx11⟩, hc1, hg1⟩
      go_wp2_with fail
      refine (byte_any g _ hc1).mono ?_
      rintro e w2 ⟨x2, rfl, ⟨hx20, hx21⟩, hc2, hg2⟩
      go_wp2_with fail
      refine (byte_any g _ hc2).mono ?_
      rintro e w3 ⟨x3, rfl, ⟨hx30, hx31⟩, hc3, hg3⟩
      go_wp2_with fail
      refine (byte_any g _ hc3).mono ?_
      rintro e w4 ⟨x4, rfl, ⟨hx40, hx41⟩, hc4, hg4⟩
      go_wp2_with fail
      go_ret
      exact ⟨_, rfl, ⟨Int.emod_nonneg _ (by omega), by have := Int.emod_lt_of_pos (x1 * 16777216 + x2 * 65536 + x3 * 256 + x4) (show 0 < n by omega); omega⟩, hc4, only_trans (only_trans (only_trans hg1 hg2) hg3) hg4⟩
end Go.Proofs.YtofikgjoiidhmaaGreatDoor

namespace Go.Proofs.YtofikgjoiidhmaaGreatDoor
open Go.RowKit

/-- What comes of making a cursor: a pointer to a block of the call's own. -/
def Made (w : World) (e : Ending) (w' : World) : Prop := ∃ g : Nat, e = .returned (.pointer (some ⟨g, 0, none⟩)) ∧ w.heap.size ≤ g ∧ CurAt w' g ∧ Below w.heap.size w w'

set_option maxHeartbeats 1000000 in
theorem new_any (A : Option Addr) (len cap : Nat) (w : World) (hcode : CodeOk w w.heap.size A len) : Calls Tryz.prog 27 #[.slice A len cap] w (Made w) := by
  have hlen := hcode.1
  have HC := Lib.hid hcode
  clear hcode
  go_enter Tryz.func27, Tryz.ntmps27
  go_wp2
  go_loop [3, 4] (fun h i => ∃ (k : Nat) (x : Int), k ≤ len ∧ i = .int .i64 k ∧ h = .int .i64 x) (fun _ i => len - (intOf i).toNat)
  case atStart => exact ⟨0, _, by omega, rfl, rfl⟩
  case round =>
    obtain ⟨k, x, hk, rfl, rfl⟩ := hrel
    by_cases hks : k < len
    · obtain ⟨ad, z, hA, hadb, hz0, hz1, hz⟩ := HC.out.2 k hks
      subst hA
      by_cases h4 : k < 4000
      · have h4' : decide ((k : Int) < 4000) = true := by simp; omega
        go_wp2
        go_round
        case rel => exact ⟨k + 1, _, by omega, by go_num, rfl⟩
        case measure => simp [intOf]; omega
      · have h4' : decide ((k : Int) < 4000) = false := by simp; omega
        go_wp2
        go_ret
        exact ⟨w.heap.size, rfl, Nat.le_refl _, ⟨some ad, len, cap, 0, _, Blk.new _ _ _, by omega, HC.out.below ((Below.refl _ _).alloc (Nat.le_refl _) _)⟩, (Below.refl _ _).alloc (Nat.le_refl _) _⟩
    · have hks' : decide ((k : Int) < (len : Int)) = false := by simp; omega
      go_wp2
      go_ret
      exact ⟨w.heap.size, rfl, Nat.le_refl _, ⟨A, len, cap, 0, _, Blk.new _ _ _, by omega, HC.out.below ((Below.refl _ _).alloc (Nat.le_refl _) _)⟩, (Below.refl _ _).alloc (Nat.le_refl _) _⟩
end Go.Proofs.YtofikgjoiidhmaaGreatDoor

namespace Go.Proofs.YtofikgjoiidhmaaGreatDoor
open Go.RowKit

/-- A block of numbers. -/
def IntsAt (w : World) (b : Nat) (zs : List Int) : Prop := ∀ j (h : j < zs.length), w.cell? ⟨b, j, none⟩ = some (.int .i64 zs[j])
theorem ints_new (w : World) (t : TypeId) (zs : List Int) : IntsAt (w.alloc (.cells (zs.map (Value.int .i64)).toArray t)) w.heap.size zs := fun j h => by
  rw [(Blk.new w t _).cell]
  simp [h]
def Picked (g : Nat) (w : World) (zs : List Int) (e : Ending) (w' : World) : Prop := ∃ x : Int, e = .returned (.int .i64 x) ∧ x ∈ zs ∧ CurAt w' g ∧ w.grownBy w' (some g)
theorem pickint_any (g b : Nat) (zs : List Int) (w : World) (hc : CurAt w g) (hl : IntsAt w b zs) (hb : b ≠ g) (hblt : b < w.heap.size) (hn : 1 ≤ zs.length) (hn2 : zs.length ≤ 1000) :
    Calls Tryz.prog 70 #[.pointer (some ⟨g, 0, none⟩), .slice (some ⟨b, 0, none⟩) zs.length zs.length] w (Picked g w zs) := by
  have HC := Lib.hid (below_any g (zs.length : Int) (by omega) (by omega) w hc)
  have HL := Lib.hid hl
  have HN := Lib.hid hb
  clear hc hl hb
  go_enter Tryz.func70, Tryz.ntmps70
  go_wp2_with fail
  refine HC.out.mono ?_
  rintro e w1 ⟨x, rfl, ⟨hx0, hx1⟩, hc1, hg1⟩
  rw [if_neg (by omega)] at hx1
  obtain ⟨j, rfl⟩ : ∃ j : Nat, x = j := ⟨x.toNat, by omega⟩
  have hj : j < zs.length := by omega
  have hcell : w1.cell? ⟨b, j, none⟩ = some (.int .i64 zs[j]) := (World.cell?_of_block (hg1.block b hblt (fun e => HN.out (by injection e)))).trans (HL.out j hj)
  have HG := Lib.hid hg1
  go_wp2_with fail
  go_ret
  exact ⟨zs[j], rfl, List.getElem_mem _, hc1, HG.out⟩

def DrewWord (g : Nat) (w : World) (e : Ending) (w' : World) : Prop := ∃ x : Nat, e = .returned (.int .u32 x) ∧ x < 4294967296 ∧ CurAt w' g ∧ w.grownBy w' (some g)
theorem u32_nat (x : Int) : ∃ n : Nat, IntKind.u32.wrap x = (n : Int) ∧ n < 4294967296 := ⟨(x % 4294967296).toNat, by rw [IntKind.wrap_u32]; omega, by omega⟩

theorem ret_u32 {a b : Int} (h : a = b) : Ending.returned (.int .u32 a) = .returned (.int .u32 b) := by rw [h]
set_option maxHeartbeats 2000000 in
theorem word_any (g : Nat) (w : World) (hc : CurAt w g) : Calls Tryz.prog 175 #[.pointer (some ⟨g, 0, none⟩)] w (DrewWord g w) := by
  have hglt : g < w.heap.size := by obtain ⟨_, _, _, _, _, hb, _⟩ := hc; exact hb.lt
  have HC := Lib.hid (below_any g 4 (by omega) (by omega) w hc)
  clear hc
  go_enter Tryz.func175, Tryz.ntmps175
  go_wp2_with fail
  refine HC.out.mono ?_
  rintro e w1 ⟨x, rfl, ⟨hx0, hx1⟩, hc1, hg1⟩
  have hglt1 : g < w1.heap.size := by have := hg1.size; omega
  have HG := Lib.hid hg1
  clear hg1
  by_cases h0 : x = 0
  · have h0' : (x == 0) = true := by simpa using h0
    clear h0
    go_wp2_with fail
    refine (pickint_any g w1.heap.size [0, 1, 2, 31, 32, 255, 256, 2147483647, 2147483648, 4294967295, 4294967294] _ (hc1.grown (World.grownBy_alloc w1 _ none) (fun _ h => by cases h)) (ints_new w1 3 [0, 1, 2, 31, 32, 255, 256, 2147483647, 2147483648, 4294967295, 4294967294]) (by omega) (by simp) (by decide) (by decide)).mono ?_
    rintro e w2 ⟨y, rfl, -, hc2, hg2⟩
    obtain ⟨n, hn, hnb⟩ := u32_nat y
    have HG2 := Lib.hid hg2
    have HNB := Lib.hid hnb
    clear hg2 hnb
    go_wp2_with fail
    go_ret
    exact ⟨n, rfl, HNB.out, hc2, only_trans (only_alloc HG.out _) HG2.out⟩
  · have h0' : (x == 0) = false := by simpa using h0
    by_cases h1 : x = 1
    · have h1' : (x == 1) = true := by simpa using h1
      clear h0 h1
      go_wp2_with fail
      refine (below_any g 300 (by omega) (by omega) _ hc1).mono ?_
      rintro e w2 ⟨y, rfl, ⟨hy0, hy1⟩, hc2, hg2⟩
      have hy2 : y ≤ 299 := by simpa using hy1
      obtain ⟨n, rfl⟩ : ∃ n : Nat, y = n := ⟨y.toNat, by omega⟩
      have HG2 := Lib.hid hg2
      clear hg2 hy1
      go_wp2_with fail
      go_ret
      exact ⟨n, rfl, by omega, hc2, only_trans HG.out HG2.out⟩
    · have h1' : (x == 1) = false := by simpa using h1
      clear h0 h1
      go_wp2_with fail
      refine (below_any g 65536 (by omega) (by omega) _ hc1).mono ?_
      rintro e w2 ⟨y, rfl, ⟨hy0, hy1⟩, hc2, hg2⟩
      have hy2 : y ≤ 65535 := by simpa using hy1
      have HG2 := Lib.hid hg2
      clear hg2 hy1
      go_wp2_with fail
      refine (below_any g 65536 (by omega) (by omega) _ hc2).mono ?_
      rintro e w3 ⟨z, rfl, ⟨hz0, hz1⟩, hc3, hg3⟩
      have hz2 : z ≤ 65535 := by simpa using hz1
      have HG3 := Lib.hid hg3
      clear hg3 hz1
      go_wp2_with fail
      go_ret
      exact ⟨(y * 65536 + z).toNat, ret_u32 (by omega), by omega, hc3, only_trans (only_trans HG.out HG2.out) HG3.out⟩
end Go.Proofs.YtofikgjoiidhmaaGreatDoor

namespace Go.Proofs.YtofikgjoiidhmaaGreatDoor
open Go.RowKit

/-- A block of texts. -/
def StrsAt (w : World) (b : Nat) (zs : List ByteArray) : Prop := ∀ j (h : j < zs.length), w.cell? ⟨b, j, none⟩ = some (.string zs[j])
theorem strs_new (w : World) (t : TypeId) (zs : List ByteArray) : StrsAt (w.alloc (.cells (zs.map Value.string).toArray t)) w.heap.size zs := fun j h => by
  rw [(Blk.new w t _).cell]
  simp [h]
def PickedS (g : Nat) (w : World) (zs : List ByteArray) (e : Ending) (w' : World) : Prop := ∃ x : ByteArray, e = .returned (.string x) ∧ x ∈ zs ∧ CurAt w' g ∧ w.grownBy w' (some g)
theorem pick_any (g b : Nat) (zs : List ByteArray) (w : World) (hc : CurAt w g) (hl : StrsAt w b zs) (hb : b ≠ g) (hblt : b < w.heap.size) (hn : 1 ≤ zs.length) (hn2 : zs.length ≤ 1000) :
    Calls Tryz.prog 69 #[.pointer (some ⟨g, 0, none⟩), .slice (some ⟨b, 0, none⟩) zs.length zs.length] w (PickedS g w zs) := by
  have HC := Lib.hid (below_any g (zs.length : Int) (by omega) (by omega) w hc)
  have HL := Lib.hid hl
  have HN := Lib.hid hb
  clear hc hl hb
  go_enter Tryz.func69, Tryz.ntmps69
  go_wp2_with fail
  refine HC.out.mono ?_
  rintro e w1 ⟨x, rfl, ⟨hx0, hx1⟩, hc1, hg1⟩
  rw [if_neg (by omega)] at hx1
  obtain ⟨j, rfl⟩ : ∃ j : Nat, x = j := ⟨x.toNat, by omega⟩
  have hj : j < zs.length := by omega
  have hcell : w1.cell? ⟨b, j, none⟩ = some (.string zs[j]) := (World.cell?_of_block (hg1.block b hblt (fun e => HN.out (by injection e)))).trans (HL.out j hj)
  have HG := Lib.hid hg1
  go_wp2_with fail
  go_ret
  exact ⟨zs[j], rfl, List.getElem_mem _, hc1, HG.out⟩
end Go.Proofs.YtofikgjoiidhmaaGreatDoor

namespace Go.Proofs.YtofikgjoiidhmaaGreatDoor
open Go.RowKit Go

end Go.Proofs.YtofikgjoiidhmaaGreatDoor

namespace Go.Proofs.YtofikgjoiidhmaaGreatDoor
open Go.RowKit Go

theorem once_any (g : Nat) (n : Nat) (h1 : n ≤ 1000) (w : World) (hc : CurAt w g) : Calls Tryz.prog 29 #[.pointer (some ⟨g, 0, none⟩), .int .i64 (n : Int)] w fun e w' => ∃ b : Bool, e = .returned (.bool b) ∧ CurAt w' g ∧ w.grownBy w' (some g) := by
  have HC := Lib.hid (below_any g (n : Int) (by omega) (by omega) w hc)
  clear hc
  go_enter Tryz.func29, Tryz.ntmps29
  go_wp2_with fail
  refine HC.out.mono ?_
  rintro e w1 ⟨x, rfl, -, hc1, hg1⟩
  have HG := Lib.hid hg1
  have HC1 := Lib.hid hc1
  clear hg1 hc1
  go_wp2_with fail
  go_ret
  exact ⟨_, rfl, HC1.out, HG.out⟩
theorem cur_lt {w : World} {g : Nat} (h : CurAt w g) : g < w.heap.size := by
  obtain ⟨_, _, _, _, _, hb, _⟩ := h
  exact hb.lt
theorem only_app {w wr w1 : World} {g : Nat} {row : Option Nat} (h : w.grownBy wr (some g)) (hg : wr.grownBy w1 row) (hr : ∀ k, row = some k → w.heap.size ≤ k) : w.grownBy w1 (some g) :=
  ⟨hg.os.trans h.os, hg.tape.trans h.tape, hg.output.trans h.output, Nat.le_trans h.size hg.size, fun i hi hne => (hg.block i (Nat.lt_of_lt_of_le hi h.size) (fun e => by have := hr i e.symm; omega)).trans (h.block i hi hne)⟩
theorem own_ne {w : World} {base : Nat} {e : TypeId} {size : Nat} {v : Value} {n : Nat} {xs : List Value} {g : Nat} (h : w.ownsRow base e size v n xs) (hg : g < base) : v.ownBlock = none ∨ v.ownBlock ≠ some g :=
  .inr (fun e => by have := own_lt h g e; omega)
/-- A name is drawn, of at most nine bytes. -/
def NamedS (g : Nat) (w : World) (e : Ending) (w' : World) : Prop := ∃ s : ByteArray, e = .returned (.string s) ∧ s.size ≤ 9 ∧ CurAt w' g ∧ w.grownBy w' (some g)
def drawnNames : List ByteArray := [⟨#[100, 117, 112]⟩, ⟨#[111, 118, 101, 114]⟩, ⟨#[115, 113, 117, 97, 114, 101]⟩, ⟨#[97, 33]⟩, ⟨#[50, 42]⟩, ⟨#[103, 111]⟩, ⟨#[45, 105, 102]⟩, ⟨#[59]⟩, ⟨#[63]⟩, ⟨#[114, 114, 114, 114, 114, 114, 114]⟩, ⟨#[114, 116, 111, 101, 97, 110, 105]⟩, ⟨#[119, 119, 119, 119, 119, 119]⟩, ⟨#[113, 113, 113, 113, 113]⟩, ⟨#[120]⟩]
theorem drawnNames_size : ∀ x ∈ drawnNames, x.size ≤ 9 := by decide

set_option maxRecDepth 100000 in
set_option maxHeartbeats 2000000 in
theorem name_any (g : Nat) (w : World) (hc : CurAt w g) : Calls Tryz.prog 185 #[.pointer (some ⟨g, 0, none⟩)] w (NamedS g w) := by
  obtain ⟨i0, hinf, hz0, hz1, hz2⟩ := info_parts infoU8
  have HO := Lib.hid (once_any g 2 (by decide) w hc)
  have hgl := cur_lt hc
  clear hc
  go_enter Tryz.func185, Tryz.ntmps185
  go_wp2_with fail
  refine HO.out.mono ?_
  rintro e w1 ⟨b, rfl, hc1, hg1⟩
  have HC1 := Lib.hid hc1
  have HG1 := Lib.hid hg1
  have hs1 := hg1.size
  clear hc1 hg1 HO
  cases b with
  | true =>
    have PK := pick_any g w1.heap.size drawnNames _ (HC1.out.grown (World.grownBy_alloc w1 _ none) (fun _ h => by cases h)) (strs_new w1 9 drawnNames) (by omega) (by simp) (by decide) (by decide)
    have HPK := Lib.hid PK
    clear PK
    go_wp2_with fail
    refine HPK.out.mono ?_
    rintro e w2 ⟨x, rfl, hx, hc2, hg2⟩
    have hx9 := drawnNames_size x hx
    have HC2 := Lib.hid hc2
    have HG2 := Lib.hid (only_trans (only_alloc HG1.out _) hg2)
    clear hx hc2 hg2
    go_wp2_with fail
    go_ret
    exact ⟨x, rfl, hx9, HC2.out, HG2.out⟩
  | false =>
    have HB := Lib.hid (below_any g 9 (by omega) (by omega) _ (HC1.out.grown (World.grownBy_alloc w1 (.cells #[] 5) none) (fun _ h => by cases h)))
    have HE := Lib.hid (own_empty w1 5)
    go_wp2_with fail
    refine HB.out.mono ?_
    rintro e w2 ⟨y, rfl, ⟨hy0, hy1⟩, hc2, hg2⟩
    have hy2 : y ≤ 8 := by simpa using hy1
    have hO2 := HE.out.kept hg2 (own_ne HE.out (by omega))
    have hG2 := only_trans (only_alloc HG1.out (.cells #[] 5)) hg2
    have HO2 := Lib.hid hO2
    have HG2 := Lib.hid hG2
    have HC2 := Lib.hid hc2
    clear hy1 hc2 hg2 hO2 hG2 HB HE
    go_wp2_with fail
    go_loopw [3, 5] (fun vo vi wr => ∃ (i : Nat) (l : List UInt8), vi = .int .i64 i ∧ l.length = i ∧ (i : Int) ≤ 1 + y ∧ wr.ownsRow w1.heap.size 5 1 vo l.length (l.map u8v) ∧ Hid (CurAt wr g ∧ w.grownBy wr (some g) ∧ w1.heap.size ≤ wr.heap.size)) (fun _ vi _ => (1 + y).toNat - (intOf vi).toNat)
    case atStart => exact ⟨0, [], rfl, rfl, by omega, HO2.out, Lib.hid ⟨HC2.out, HG2.out, by
      have h1 := hs1
      have h2 := (HO2.out.2)
      rcases h2 with ⟨h3, _⟩ | ⟨k, _, _, h3, h4, h5, _⟩
      · cases h3
      · have := (Array.getElem?_eq_some_iff.1 h5).1; omega⟩⟩
    case round =>
      obtain ⟨i, l, rfl, hl, hi, hown, HW⟩ := hrel
      obtain ⟨hcr, hgr, hsr⟩ := HW.out
      by_cases hp : (i : Int) < 1 + y
      · have HB := Lib.hid (below_any g 47 (by omega) (by omega) _ hcr)
        clear hcr hgr
        go_wp2_with fail
        refine HB.out.mono ?_
        rintro e w3 ⟨k, rfl, ⟨hk0, hk1⟩, hc3, hg3⟩
        have hk2 : k ≤ 46 := by simpa using hk1
        obtain ⟨m, rfl⟩ : ∃ m : Nat, k = m := ⟨k.toNat, by omega⟩
        have hO3 := hown.kept hg3 (own_ne hown (by omega))
        have HL : Hid (∀ W, Calls Tryz.prog 189 #[.int .i64 (1 + (m : Int))] W fun e w' => e = .returned (.int .u8 ((byteAt ((1 + m : Nat) : Int)).toNat : Int)) ∧ W = w') := Lib.hid fun W => by
          rw [← byteAt_int (k := 1 + m) (by omega)]
          have e : ((1 + m : Nat) : Int) = 1 + (m : Int) := by omega
          rw [e]
          exact spec_letterat _ W
        obtain ⟨c, hcc⟩ : ∃ c, byteAt ((1 + m : Nat) : Int) = c := ⟨_, rfl⟩
        rw [hcc] at HL
        have hs3 := hg3.size
        have HC3 := Lib.hid hc3
        have HG3 := Lib.hid (only_trans HW.out.2.1 hg3)
        clear hcc hk1 hc3 hg3 hown HB HW
        go_wp2_with fail
        refine (HL.out _).mono ?_
        rintro e w' ⟨rfl, rfl⟩
        go_wp2_with (at_builtin; refine wpList_append_own _ rfl _ _ 22 rfl w1.heap.size 5 i0 (.int .u8 0) 1 1 Tryz.underlying22 hinf hz0 hz1 hz2 rfl (by decide) _ _ _ rfl (hO3.alloc _) ⟨w3.heap.size, 0, none⟩ 1 1 [.int .u8 (c.toNat : Int)] rfl rfl (cell_one_new _ _ _) (by simp [Value.oneCell']) (by unfold maxLen; omega) (by omega) (by simp; omega) ?_; intro v' w4 hown' hgrow _)
        have hgs := hgrow.size
        have hal : w3.heap.size ≤ (w3.alloc (.cells #[.int .u8 (c.toNat : Int)] 5)).heap.size := by simp
        go_roundw
        case rel => exact ⟨i + 1, l ++ [c], by go_num, by simp [hl], by omega, by simpa [u8v] using hown', Lib.hid ⟨(HC3.out.grown (World.grownBy_alloc w3 _ none) (fun _ h => by cases h)).grown hgrow (fun k hk => by have := own_lt hO3 k hk; omega), only_app (only_alloc HG3.out _) hgrow (fun k hk => by have := own_lt hO3 k hk; omega), by omega⟩⟩
        case measure => simp [intOf]; omega
      · have hstr := own_string (P := Tryz.prog) (src := 22) (dst := 9) Tryz.underlying22 Tryz.underlying5 Tryz.underlying9 hown
        clear hown hcr hgr
        go_wp2_with fail
        go_ret
        exact ⟨_, rfl, by show l.length ≤ 9; omega, HW.out.1, HW.out.2.1⟩
end Go.Proofs.YtofikgjoiidhmaaGreatDoor

namespace Go.Proofs.YtofikgjoiidhmaaGreatDoor
open Go.ChangeShapes Go.WideShapes Go.ChangeAt Go.RowKit

theorem lt_of_cell_any {w : World} {a : Addr} {v : Value} (h : w.cell? a = some v) : a.block < w.heap.size := by
  rcases Nat.lt_or_ge a.block w.heap.size with hl | hl
  · exact hl
  · have e : w.heap[a.block]? = none := Array.getElem?_eq_none hl
    simp [World.cell?, e] at h
theorem code_of {H : Type} {enc : TypeId × Value → H} {P : Program} {W : World} {t e : TypeId} {A : Option Addr} {len cap : Nat} {d : DataW H} {p : List MemPlace}
    (ht : P.underlying t = some (.slice e)) (he : P.underlying e = some (.int .u8)) (hc : P.cellsOf e = 1) (h : DataW.Trod enc P W 0 (fun _ => true) true t (.slice A len cap) d p) : CodeOk W W.heap.size A len := by
  obtain ⟨fuel, hf⟩ := h
  rcases open_ints ht he hc hf with ⟨hcs, -⟩ | ⟨a, len', cap', zs, hcs, -, hl, hm, hz, -, hcell, hwz⟩
  · have hcs' : (Value.slice A len cap) = .slice none 0 0 := by simpa [Value.cells] using hcs
    injection hcs' with h1 h2 h3
    subst h1 h2 h3
    exact ⟨by omega, fun j hj => by omega⟩
  · have hcs' : (Value.slice A len cap) = .slice (some a) len' cap' := by simpa [Value.cells] using hcs
    injection hcs' with h1 h2 h3
    subst h1 h2 h3
    unfold maxLen at hm
    simp at hz
    refine ⟨by omega, fun j hj => ?_⟩
    have h1 := hcell j (by omega)
    have h2 := lt_of_cell_any h1
    rw [addr_add_block] at h2
    have hmem : zs.getD j 0 ∈ zs := by
      have e : zs.getD j 0 = zs[j]'(by omega) := by simp [List.getD, List.getElem?_eq_getElem (show j < zs.length by omega)]
      rw [e]
      exact List.getElem_mem _
    have hw := hwz _ hmem
    have hb : 0 ≤ zs.getD j 0 ∧ zs.getD j 0 ≤ 255 := by
      simpa [Lit.wf, IntKind.min, IntKind.max, IntKind.signed, IntKind.bits] using hw
    exact ⟨a, zs.getD j 0, rfl, h2, hb.1, hb.2, h1⟩
end Go.Proofs.YtofikgjoiidhmaaGreatDoor

namespace Go.Proofs.YtofikgjoiidhmaaGreatDoor
open Go.RowKit Go

theorem big_any (A : Option Addr) (len cap : Nat) (w : World) : Calls Tryz.prog 7 #[.slice A len cap] w fun e w' => e = .returned (.bool (decide (1048576 < (len : Int)))) ∧ w = w' := by
  go_enter Tryz.func7, Tryz.ntmps7
  go_wp2
  go_ret
  exact ⟨rfl, rfl⟩
/-- A byte of the code, or a number that follows from its length. -/
def AByte (w : World) (e : Ending) (w' : World) : Prop := ∃ x : Nat, e = .returned (.int .i64 x) ∧ x ≤ 255 ∧ w = w'
theorem at_any (A : Option Addr) (len cap i : Nat) (hi : i ≤ 1000) (w : World) (hcode : CodeOk w w.heap.size A len) : Calls Tryz.prog 22 #[.slice A len cap, .int .i64 i] w (AByte w) := by
  have hlen := hcode.1
  have HC := Lib.hid hcode
  clear hcode
  by_cases h : i < len
  · obtain ⟨ad, z, hA, hadb, hz0, hz1, hz⟩ := HC.out.2 i h
    subst hA
    obtain ⟨x, rfl⟩ : ∃ x : Nat, z = x := ⟨z.toNat, by omega⟩
    go_enter Tryz.func22, Tryz.ntmps22
    go_wp2
    go_ret
    exact ⟨x, rfl, by omega, rfl⟩
  · have h' : decide ((i : Int) < (len : Int)) = false := by simp; omega
    have h2 : (len : Int) ≤ (i : Int) := by omega
    clear h
    go_enter Tryz.func22, Tryz.ntmps22
    go_wp2
    go_ret
    refine ⟨(i * 7 + len) % 256, ?_, by omega, rfl⟩
    simp
end Go.Proofs.YtofikgjoiidhmaaGreatDoor

namespace Go.Proofs.YtofikgjoiidhmaaGreatDoor
open Go.RowKit Go

/-- An op as it may be: a kind and a number. -/
def okOp (o : Int × Int) : Bool := if o.1 = 0 then true else if o.1 = 1 then decide (0 ≤ o.2 ∧ o.2 ≤ 23) else if o.1 = 2 then decide (0 ≤ o.2 ∧ o.2 ≤ 23) else decide ((3 ≤ o.1 ∧ o.1 ≤ 8) ∧ o.2 = 0)
/-- The kinds that ops leave open behind those that are open ahead of them. -/
def openG : List (Int × Int) → List Int → Option (List Int)
  | [], st => some st
  | o :: r, st =>
    if o.1 = 3 ∨ o.1 = 4 ∨ o.1 = 6 then openG r (st ++ [o.1])
    else if o.1 = 5 ∨ o.1 = 7 then
      match st.getLast? with
      | none => none
      | some k => if (k = 6 ↔ o.1 = 7) then openG r st.dropLast else none
    else openG r st
/-- The op that ends one of a kind. -/
def endOf (k : Int) : Int × Int := if k = 6 then (7, 0) else (5, 0)
/-- The same with ops that may be none: what ends nothing must begin something. -/
def waitG : List (Int × Int) → List Int → Option (List Int)
  | [], st => some st
  | o :: r, st =>
    if okOp o = true ∧ o.1 ≠ 5 ∧ o.1 ≠ 7 then (if o.1 = 3 ∨ o.1 = 4 ∨ o.1 = 6 then waitG r (st ++ [o.1]) else waitG r st)
    else match st.getLast? with
      | none => none
      | some k => if endOf k = o then waitG r st.dropLast else none
theorem okOp_end (k : Int) : okOp (endOf k) = true := by
  unfold endOf
  split <;> decide
theorem waitG_eq : ∀ (xs : List (Int × Int)) (st : List Int), waitG xs st = if xs.all okOp = true then openG xs st else none := by
  intro xs
  induction xs with
  | nil => intro st; rfl
  | cons o r ih =>
    intro st
    obtain ⟨k, n⟩ := o
    unfold waitG openG
    simp only [List.all_cons, Bool.and_eq_true]
    cases hk : okOp (k, n) with
    | false =>
      simp only [Bool.false_eq_true, false_and, if_false]
      split
      · rfl
      · rename_i q hq
        rw [if_neg]
        intro e
        have := okOp_end q
        rw [e, hk] at this
        cases this
    | true =>
      simp only [true_and]
      by_cases h5 : k = 5 ∨ k = 7
      · have hn : n = 0 := by
          unfold okOp at hk
          rcases h5 with rfl | rfl <;> simpa using hk
        have a1 : ¬ (k ≠ 5 ∧ k ≠ 7) := by omega
        have a2 : ¬ (k = 3 ∨ k = 4 ∨ k = 6) := by omega
        rw [if_neg a1, if_neg a2, if_pos h5]
        cases hl : st.getLast? with
        | none => simp
        | some q =>
          simp only
          have he : (endOf q = (k, n)) ↔ (q = 6 ↔ k = 7) := by
            unfold endOf
            subst hn
            by_cases hq : q = 6
            · simp [hq]; omega
            · simp [hq]; omega
          by_cases h6 : (q = 6 ↔ k = 7)
          · rw [if_pos (he.2 h6), if_pos h6, ih]
          · rw [if_neg (fun e => h6 (he.1 e)), if_neg h6]
            simp
      · have a1 : k ≠ 5 ∧ k ≠ 7 := by omega
        rw [if_pos a1, if_neg h5]
        by_cases h3 : k = 3 ∨ k = 4 ∨ k = 6
        · rw [if_pos h3, if_pos h3, ih]
        · rw [if_neg h3, if_neg h3, ih]
/-- A body with its shape. -/
def shapeB (xs : List (Int × Int)) : Bool := decide (xs.length ≤ 60) && (xs.all okOp && decide (openG xs [] = some []))
theorem shape_wait (xs : List (Int × Int)) : shapeB xs = (decide (xs.length ≤ 60) && decide (waitG xs [] = some [])) := by
  unfold shapeB
  rw [waitG_eq]
  cases h : xs.all okOp <;> simp
end Go.Proofs.YtofikgjoiidhmaaGreatDoor

namespace Go.Proofs.YtofikgjoiidhmaaGreatDoor
open Go.RowKit Go

/-- A tree: its kind, its number, what stands in it. -/
inductive Tr | mk (k n : Int) (kids : List Tr)
def Tr.k : Tr → Int | .mk k _ _ => k
def Tr.n : Tr → Int | .mk _ n _ => n
def Tr.kids : Tr → List Tr | .mk _ _ c => c
mutual
def Tr.size : Tr → Nat | .mk _ _ c => sizeL c + 1
def sizeL : List Tr → Nat | [] => 0 | t :: r => t.size + sizeL r
end
theorem Tr.size_kids (t : Tr) : t.size = sizeL t.kids + 1 := by cases t; simp only [Tr.size, Tr.kids]
theorem sizeL_app (a b : List Tr) : sizeL (a ++ b) = sizeL a + sizeL b := by
  induction a with
  | nil => simp [sizeL]
  | cons t r ih => simp only [List.cons_append, sizeL, ih]; omega
theorem sizeL_one (t : Tr) : sizeL [t] = sizeL t.kids + 1 := by simp only [sizeL, Tr.size_kids, Nat.add_zero]
theorem sizeL_get {xs : List Tr} {i : Nat} (h : i < xs.length) : sizeL xs[i].kids + 1 + sizeL (xs.take i) ≤ sizeL xs := by
  have e : xs = xs.take i ++ xs[i] :: xs.drop (i + 1) := by rw [← List.drop_eq_getElem_cons h, List.take_append_drop]
  have e2 := congrArg sizeL e
  rw [sizeL_app, sizeL] at e2
  have := Tr.size_kids xs[i]
  omega
theorem sizeL_len (xs : List Tr) : xs.length ≤ sizeL xs := by
  induction xs with
  | nil => simp [sizeL]
  | cons t r ih => simp only [sizeL, List.length_cons]; have := t.size_kids; omega
theorem sizeL_take_succ {xs : List Tr} {i : Nat} (h : i < xs.length) : sizeL (xs.take (i + 1)) = sizeL (xs.take i) + (sizeL xs[i].kids + 1) := by rw [← List.take_append_getElem h, sizeL_app, sizeL_one]
mutual
/-- Trees with the marks k, k + 1, .. in the places of their kinds and numbers, one behind the other. -/
def markT : Tr → Nat → Tr | .mk _ _ c, k => .mk (k : Int) ((k + 1 : Nat) : Int) (markL c (k + 2))
def markL : List Tr → Nat → List Tr | [], _ => [] | t :: r, k => markT t k :: markL r (k + 2 * t.size)
end
theorem markL_len (xs : List Tr) (k : Nat) : (markL xs k).length = xs.length := by
  induction xs generalizing k with
  | nil => rfl
  | cons t r ih => simp only [markL, List.length_cons, ih]
theorem markT_eq (t : Tr) (k : Nat) : markT t k = .mk (k : Int) ((k + 1 : Nat) : Int) (markL t.kids (k + 2)) := by cases t; simp only [markT, Tr.kids]
theorem markL_app (a b : List Tr) (k : Nat) : markL (a ++ b) k = markL a k ++ markL b (k + 2 * sizeL a) := by
  induction a generalizing k with
  | nil => simp only [List.nil_append, markL, sizeL, Nat.mul_zero, Nat.add_zero]
  | cons t r ih =>
    simp only [List.cons_append, markL, sizeL, ih]
    rw [show k + 2 * t.size + 2 * sizeL r = k + 2 * (t.size + sizeL r) by omega]
mutual
theorem size_mark : ∀ (t : Tr) (k : Nat), (markT t k).size = t.size
  | .mk _ _ c, k => by simp only [markT, Tr.size, sizeL_mark c]
theorem sizeL_mark : ∀ (xs : List Tr) (k : Nat), sizeL (markL xs k) = sizeL xs
  | [], _ => by simp only [markL]
  | t :: r, k => by simp only [markL, sizeL, size_mark t, sizeL_mark r]
end
/-- Marked as far as i. -/
def halfL (k i : Nat) (xs : List Tr) : List Tr := markL (xs.take i) k ++ xs.drop i
theorem halfL_len (k i : Nat) (xs : List Tr) (h : i ≤ xs.length) : (halfL k i xs).length = xs.length := by simp [halfL, markL_len]; omega
theorem halfL_get? (k i j : Nat) (xs : List Tr) (hi : i ≤ xs.length) : (halfL k i xs)[j]? = if j < i then (markL xs k)[j]? else xs[j]? := by
  unfold halfL
  have hl : (markL (xs.take i) k).length = i := by rw [markL_len, List.length_take]; omega
  by_cases h : j < i
  · rw [if_pos h, List.getElem?_append_left (by omega)]
    have e : markL xs k = markL (xs.take i) k ++ markL (xs.drop i) (k + 2 * sizeL (xs.take i)) := by rw [← markL_app, List.take_append_drop]
    rw [e, List.getElem?_append_left (by omega)]
  · rw [if_neg h, List.getElem?_append_right (by omega), hl, List.getElem?_drop]
    congr 1
    omega
theorem halfL_get_lt {k i j : Nat} {xs : List Tr} (h : j < i) (hi : i ≤ xs.length) (hj : j < (halfL k i xs).length) : (halfL k i xs)[j] = (markL xs k)[j]'(by rw [markL_len]; omega) := by
  have e := halfL_get? k i j xs hi
  rw [if_pos h, List.getElem?_eq_getElem hj, List.getElem?_eq_getElem (by rw [markL_len]; omega)] at e
  exact Option.some.inj e
theorem halfL_get_ge {k i j : Nat} {xs : List Tr} (h : i ≤ j) (hi : i ≤ xs.length) (hj : j < (halfL k i xs).length) (hx : j < xs.length) : (halfL k i xs)[j] = xs[j] := by
  have e := halfL_get? k i j xs hi
  rw [if_neg (by omega), List.getElem?_eq_getElem hj, List.getElem?_eq_getElem hx] at e
  exact Option.some.inj e
theorem markL_get {k i : Nat} {xs : List Tr} (h : i < xs.length) : (markL xs k)[i]'(by rw [markL_len]; exact h) = markT xs[i] (k + 2 * sizeL (xs.take i)) := by
  have e : markL xs k = markL (xs.take i) k ++ markL (xs.drop i) (k + 2 * sizeL (xs.take i)) := by rw [← markL_app, List.take_append_drop]
  simp only [e]
  rw [List.getElem_append_right (by rw [markL_len, List.length_take]; omega)]
  simp only [List.drop_eq_getElem_cons h, markL, markL_len, List.length_take]
  have : i - min i xs.length = 0 := by omega
  simp [this]
theorem halfL_succ {k i : Nat} {xs : List Tr} (h : i < xs.length) : halfL k (i + 1) xs = (halfL k i xs).set i (markT xs[i] (k + 2 * sizeL (xs.take i))) := by
  unfold halfL
  rw [List.set_append_right _ _ (by rw [markL_len, List.length_take]; omega), markL_len, List.length_take, show i - min i xs.length = 0 by omega, List.drop_eq_getElem_cons h, List.set_cons_zero, ← List.take_append_getElem h, markL_app]
  simp only [markL, List.append_assoc, List.cons_append, List.nil_append]
theorem halfL_zero (k : Nat) (xs : List Tr) : halfL k 0 xs = xs := by simp [halfL, markL]
theorem halfL_all (k : Nat) (xs : List Tr) : halfL k xs.length xs = markL xs k := by simp [halfL]
/-- The trees that ops begin with, and the ops behind these: none, or one that ends something. -/
inductive Grows : List (Int × Int) → List Tr → List (Int × Int) → Prop
  | stop (xs : List (Int × Int)) (h : ∀ o r, xs = o :: r → o.1 = 5 ∨ o.1 = 7) : Grows xs [] xs
  | leaf (o : Int × Int) (r ys : List (Int × Int)) (ts : List Tr) (h : o.1 ≠ 3 ∧ o.1 ≠ 4 ∧ o.1 ≠ 5 ∧ o.1 ≠ 6 ∧ o.1 ≠ 7) (g : Grows r ts ys) : Grows (o :: r) (.mk o.1 o.2 [] :: ts) ys
  | nest (o : Int × Int) (r r2 ys : List (Int × Int)) (kids ts : List Tr) (h : o.1 = 3 ∨ o.1 = 4 ∨ o.1 = 6) (gk : Grows r kids (endOf o.1 :: r2)) (g : Grows r2 ts ys) : Grows (o :: r) (.mk o.1 o.2 kids :: ts) ys
theorem Grows.size {xs ys : List (Int × Int)} {ts : List Tr} (h : Grows xs ts ys) : sizeL ts + ys.length ≤ xs.length := by
  induction h with
  | stop xs h => simp [sizeL]
  | leaf o r ys ts h g ih => simp only [sizeL, Tr.size, List.length_cons] at ih ⊢; omega
  | nest o r r2 ys kids ts h gk g ih1 ih2 => simp only [sizeL, Tr.size, List.length_cons] at ih1 ih2 ⊢; omega
theorem Grows.suffix {xs ys : List (Int × Int)} {ts : List Tr} (h : Grows xs ts ys) : ys = xs.drop (xs.length - ys.length) := by
  induction h with
  | stop xs h => simp
  | leaf o r ys ts h g ih =>
    have := g.size
    rw [List.length_cons, show r.length + 1 - ys.length = (r.length - ys.length) + 1 by omega, List.drop_succ_cons]
    exact ih
  | nest o r r2 ys kids ts h gk g ih1 ih2 =>
    have h1 := gk.size
    have h2 := g.size
    simp only [List.length_cons] at h1
    have e1 : r2 = r.drop (r.length - r2.length) := by
      have := congrArg (List.drop 1) ih1
      simp only [List.drop_succ_cons, List.drop_zero, List.drop_drop, List.length_cons] at this
      rw [show r.length - (r2.length + 1) + 1 = r.length - r2.length by omega] at this
      exact this
    rw [List.length_cons, show r.length + 1 - ys.length = (r.length - ys.length) + 1 by omega, List.drop_succ_cons]
    rw [show r.length - ys.length = (r.length - r2.length) + (r2.length - ys.length) by omega, ← List.drop_drop, ← e1]
    exact ih2
theorem grows_of : ∀ (m : Nat) (xs : List (Int × Int)) (st : List Int), xs.length ≤ m → xs.all okOp = true → openG xs st = some [] →
    ∃ ts ys, Grows xs ts ys ∧ ((ys = [] ∧ st = []) ∨ ∃ r q st0, ys = endOf q :: r ∧ st = st0 ++ [q] ∧ openG r st0 = some [] ∧ r.all okOp = true) := by
  intro m
  induction m with
  | zero =>
    intro xs st hl ha ho
    obtain rfl : xs = [] := List.eq_nil_of_length_eq_zero (by omega)
    simp [openG] at ho
    exact ⟨[], [], .stop _ (fun o r e => by cases e), .inl ⟨rfl, ho⟩⟩
  | succ m ih =>
    intro xs st hl ha ho
    cases xs with
    | nil =>
      simp [openG] at ho
      exact ⟨[], [], .stop _ (fun o r e => by cases e), .inl ⟨rfl, ho⟩⟩
    | cons o r =>
      simp only [List.all_cons, Bool.and_eq_true] at ha
      simp only [List.length_cons] at hl
      by_cases h5 : o.1 = 5 ∨ o.1 = 7
      · refine ⟨[], o :: r, .stop _ (fun o2 r2 e => by injection e with e1 e2; rw [← e1]; exact h5), .inr ?_⟩
        rcases List.eq_nil_or_concat st with rfl | ⟨l, q, rfl⟩
        · unfold openG at ho
          rw [if_neg (by omega), if_pos h5] at ho
          simp at ho
        · simp only [List.concat_eq_append] at ho ⊢
          unfold openG at ho
          rw [if_neg (by omega), if_pos h5] at ho
          simp only [List.getLast?_append, List.getLast?_singleton, Option.some_or, List.dropLast_concat] at ho
          split at ho
          · rename_i hq
            refine ⟨r, q, l, ?_, rfl, ho, ha.2⟩
            obtain ⟨k, n⟩ := o
            have hn : n = 0 := by
              have hk := ha.1
              unfold okOp at hk
              simp only at h5
              rcases h5 with rfl | rfl <;> simpa using hk
            subst hn
            simp only at h5 hq
            unfold endOf
            by_cases h6 : q = 6
            · rw [if_pos h6, hq.1 h6]
            · rw [if_neg h6, show k = 5 by
                rcases h5 with h | h
                · exact h
                · exact absurd (hq.2 h) h6]
          · cases ho
      · by_cases h3 : o.1 = 3 ∨ o.1 = 4 ∨ o.1 = 6
        · unfold openG at ho
          rw [if_pos h3] at ho
          obtain ⟨kids, ys1, g1, h1⟩ := ih r _ (by omega) ha.2 ho
          rcases h1 with ⟨-, hx⟩ | ⟨r1, q, st0, rfl, hst, ho1, ha1⟩
          · simp at hx
          · obtain ⟨e1, e2⟩ := List.append_inj' hst rfl
            subst e1
            injection e2 with e2 _
            subst e2
            have := g1.size
            simp only [List.length_cons] at this
            obtain ⟨ts, ys, g2, h2⟩ := ih r1 _ (by omega) ha1 ho1
            exact ⟨_, ys, .nest o r r1 ys kids ts h3 g1 g2, h2⟩
        · unfold openG at ho
          rw [if_neg h3, if_neg h5] at ho
          obtain ⟨ts, ys, g2, h2⟩ := ih r _ (by omega) ha.2 ho
          exact ⟨_, ys, .leaf o r ys ts (by omega) g2, h2⟩
/-- The trees of a body with its shape. -/
theorem shape_grows {xs : List (Int × Int)} (h : shapeB xs = true) : ∃ ts, Grows xs ts [] := by
  unfold shapeB at h
  simp only [Bool.and_eq_true, decide_eq_true_eq] at h
  obtain ⟨ts, ys, g, h1⟩ := grows_of xs.length xs [] (Nat.le_refl _) h.2.1 h.2.2
  rcases h1 with ⟨rfl, -⟩ | ⟨r, q, st0, -, hx, -⟩
  · exact ⟨ts, g⟩
  · simp at hx
mutual
/-- The ops of a tree, in order. -/
def flatT : Tr → List (Int × Int) | .mk k n c => (k, n) :: (if k = 3 ∨ k = 4 ∨ k = 6 then flatL c ++ [endOf k] else [])
def flatL : List Tr → List (Int × Int) | [] => [] | t :: r => flatT t ++ flatL r
end
theorem Grows.flat {xs ys : List (Int × Int)} {ts : List Tr} (h : Grows xs ts ys) : xs = flatL ts ++ ys := by
  induction h with
  | stop xs h => simp [flatL]
  | leaf o r ys ts h g ih =>
    rw [flatL, flatT, if_neg (by omega)]
    simp only [List.cons_append, List.nil_append]
    rw [← ih]
  | nest o r r2 ys kids ts h gk g ih1 ih2 =>
    rw [flatL, flatT, if_pos h]
    simp only [List.cons_append, List.append_assoc, List.nil_append]
    rw [← ih2, ← ih1]
end Go.Proofs.YtofikgjoiidhmaaGreatDoor

namespace Go.Proofs.YtofikgjoiidhmaaGreatDoor
open Go.RowKit Go

mutual
/-- A tree whose kinds and kids may be. -/
def Tr.sh : Tr → Bool | .mk k _ c => decide (k ≠ 5 ∧ k ≠ 7) && (if k = 3 ∨ k = 4 ∨ k = 6 then shL c else c.isEmpty)
def shL : List Tr → Bool | [] => true | t :: r => t.sh && shL r
end
theorem shL_app (a b : List Tr) : shL (a ++ b) = (shL a && shL b) := by
  induction a with
  | nil => simp [shL]
  | cons t r ih => simp only [List.cons_append, shL, ih, Bool.and_assoc]
theorem flatL_app (a b : List Tr) : flatL (a ++ b) = flatL a ++ flatL b := by
  induction a with
  | nil => simp [flatL]
  | cons t r ih => simp only [List.cons_append, flatL, ih, List.append_assoc]
theorem flatL_take {xs : List Tr} {i : Nat} (h : i < xs.length) : flatL (xs.take (i + 1)) = flatL (xs.take i) ++ flatT xs[i] := by
  rw [← List.take_append_getElem h, flatL_app, flatL, flatL, List.append_nil]
theorem shL_take {xs : List Tr} {i : Nat} (h : i < xs.length) : shL (xs.take (i + 1)) = (shL (xs.take i) && xs[i].sh) := by
  rw [← List.take_append_getElem h, shL_app, shL, shL, Bool.and_true]
theorem flatT_leaf {k n : Int} {c : List Tr} (h : ¬ (k = 3 ∨ k = 4 ∨ k = 6)) : flatT (.mk k n c) = [(k, n)] := by rw [flatT, if_neg h]
theorem flatT_nest {k n : Int} {c : List Tr} (h : k = 3 ∨ k = 4 ∨ k = 6) : flatT (.mk k n c) = (k, n) :: (flatL c ++ [endOf k]) := by rw [flatT, if_pos h]
theorem flatT_pos (t : Tr) : 1 ≤ (flatT t).length := by cases t with | mk k n c => rw [flatT, List.length_cons]; omega
theorem flatL_split {xs : List Tr} {i : Nat} (h : i < xs.length) : (flatL xs).length = (flatL (xs.take i)).length + (flatT xs[i]).length + (flatL (xs.drop (i + 1))).length := by
  have e : xs = xs.take i ++ xs[i] :: xs.drop (i + 1) := by rw [← List.drop_eq_getElem_cons h, List.take_append_drop]
  have e2 := congrArg (fun l => (flatL l).length) e
  simp only [flatL_app, flatL, List.length_append] at e2
  omega
theorem shL_split {xs : List Tr} {i : Nat} (h : i < xs.length) (hs : shL xs = true) : xs[i].sh = true := by
  have e : xs = xs.take i ++ xs[i] :: xs.drop (i + 1) := by rw [← List.drop_eq_getElem_cons h, List.take_append_drop]
  rw [e, shL_app, shL] at hs
  simp only [Bool.and_eq_true] at hs
  exact hs.2.1
mutual
theorem flatT_len : ∀ t : Tr, (flatT t).length ≤ 2 * t.size
  | .mk k n c => by
    have := flatL_len c
    rw [flatT, Tr.size]
    split <;> simp only [List.length_cons, List.length_append, List.length_nil] <;> omega
theorem flatL_len : ∀ xs : List Tr, (flatL xs).length ≤ 2 * sizeL xs
  | [] => by simp [flatL]
  | t :: r => by
    have := flatT_len t
    have := flatL_len r
    simp only [flatL, List.length_append, sizeL]
    omega
end
mutual
theorem openT_flat : ∀ (t : Tr), t.sh = true → ∀ (r : List (Int × Int)) (st : List Int), openG (flatT t ++ r) st = openG r st
  | .mk k n c, h, r, st => by
    simp only [Tr.sh, Bool.and_eq_true, decide_eq_true_eq] at h
    by_cases h3 : k = 3 ∨ k = 4 ∨ k = 6
    · rw [if_pos h3] at h
      rw [flatT_nest h3, List.cons_append, List.append_assoc]
      rw [openG, if_pos h3, openL_flat c h.2]
      simp only [List.cons_append, List.nil_append]
      rw [openG, if_neg (by unfold endOf; split <;> decide), if_pos (by unfold endOf; split <;> decide)]
      simp only [List.getLast?_append, List.getLast?_singleton, Option.some_or, List.dropLast_concat]
      rw [if_pos]
      unfold endOf
      split <;> omega
    · rw [flatT_leaf h3]
      simp only [List.cons_append, List.nil_append]
      rw [openG, if_neg h3, if_neg (by simp only; omega)]
theorem openL_flat : ∀ (xs : List Tr), shL xs = true → ∀ (r : List (Int × Int)) (st : List Int), openG (flatL xs ++ r) st = openG r st
  | [], _, r, st => by simp [flatL]
  | t :: ts, h, r, st => by
    simp only [shL, Bool.and_eq_true] at h
    rw [flatL, List.append_assoc, openT_flat t h.1, openL_flat ts h.2]
end
theorem shape_flat {xs : List Tr} (h : shL xs = true) : shapeB (flatL xs) = (decide ((flatL xs).length ≤ 60) && (flatL xs).all okOp) := by
  have := openL_flat xs h [] []
  rw [List.append_nil] at this
  unfold shapeB
  rw [this, openG]
  simp
/-- What FlatOf tells. -/
def flat8 (xs : List Tr) : List (Int × Int) := if shL xs = true ∧ (flatL xs).length ≤ 60 ∧ (flatL xs).all okOp = true then flatL xs else []
theorem flat8_len (xs : List Tr) : (flat8 xs).length ≤ 60 := by
  unfold flat8
  split
  · rename_i h; exact h.2.1
  · simp
end Go.Proofs.YtofikgjoiidhmaaGreatDoor

namespace Go.Proofs.YtofikgjoiidhmaaGreatDoor
open Go.RowKit Go

/-- A goal at which the walk stands still. -/
def Stop (P : Prop) : Prop := P
theorem unstop {P : Prop} (h : Stop P) : P := h
theorem Stop.go {P : Prop} (h : P) : Stop P := h
/-- A list from which one appends: nil or an address with its cells. -/
def SrcAt (w : World) (size : Nat) (u : Value) (m : Nat) (ys : List Value) : Prop :=
  ∃ (A : Option Addr) (c : Nat), u = .slice A m c ∧ ys.length = m * size ∧ (A = none → m = 0) ∧ ∀ a, A = some a → ∀ j x, ys[j]? = some x → w.cell? (a.add j) = some x
/-- Where the result of an append lies: in the row itself, which has room, or in new memory. -/
def AppAlt (w w' : World) (v v' : Value) (n m : Nat) : Prop :=
  (∃ g cap, v = .slice (some ⟨g, 0, none⟩) n cap ∧ n + m ≤ cap ∧ v' = .slice (some ⟨g, 0, none⟩) (n + m) cap ∧ w.grownBy w' (some g)) ∨ (Below w.heap.size w w' ∧ ∀ k, v'.ownBlock = some k → w.heap.size ≤ k)
theorem AppAlt.grown {w w' : World} {v v' : Value} {n m : Nat} (h : AppAlt w w' v v' n m) : w.grownBy w' v.ownBlock := by
  rcases h with ⟨g, cap, rfl, -, -, h⟩ | ⟨h, -⟩
  · exact h
  · exact only_of_below h _
section
variable {P : Program} {w : World}
theorem run_append_nil_src (base : Nat) (t ty e : TypeId) (i : TypeInfo) (size : Nat) (ht : P.underlying t = some (.slice e)) (hi : P.info? e = some i)
    (v : Value) (n : Nat) (xs : List Value) (hown : w.ownsRow base e size v n xs) (c : Nat) : (Builtin.append_ #[t, t] ty #[v, .slice none 0 c]).run P w = .ok v w := by
  rcases hown.2 with ⟨rfl, rfl⟩ | ⟨g, cap, cur, rfl, _, _, hnc, _⟩
  · simp [Builtin.append_, run_underlying ht, sizeOf, typeInfo, hi, Builtin.lenOf, Builtin.firstCells]
  · simp [Builtin.append_, run_underlying ht, sizeOf, typeInfo, hi, Builtin.lenOf, Builtin.firstCells, hnc, storeCells]
theorem run_append_alt (base : Nat) (t ty e : TypeId) (i : TypeInfo) (z : Value) (size bytes : Nat) (ht : P.underlying t = some (.slice e)) (hi : P.info? e = some i) (hz : i.zero = some z)
    (hsize : i.size = size) (hby : i.bytes = bytes) (hzs : z.cells.size = size) (hsz : 0 < size)
    (v : Value) (n : Nat) (xs : List Value) (hown : w.ownsRow base e size v n xs)
    (u : Value) (m : Nat) (ys : List Value) (hsrc : SrcAt w size u m ys) (h1 : ∀ x ∈ ys, x.oneCell' = true)
    (h63 : n + m ≤ maxLen) (hbytes : (n + m) * bytes ≤ 140737488355328) (hbase : base ≤ w.heap.size) :
    ∃ v' w', (Builtin.append_ #[t, t] ty #[v, u]).run P w = .ok v' w' ∧ w'.ownsRow base e size v' (n + m) (xs ++ ys) ∧ AppAlt w w' v v' n m := by
  obtain ⟨A, c, rfl, hl, hnone, hcells⟩ := hsrc
  cases A with
  | none =>
    obtain rfl := hnone rfl
    have hys : ys = [] := List.eq_nil_of_length_eq_zero (by simpa using hl)
    subst hys
    refine ⟨v, w, run_append_nil_src base t ty e i size ht hi v n xs hown c, by simpa using hown, ?_⟩
    rcases hown.2 with ⟨rfl, -⟩ | ⟨g, cap, cur, rfl, -, -, hnc, -⟩
    · exact .inr ⟨Below.refl _ _, fun k hk => by simp [Value.ownBlock] at hk⟩
    · exact .inl ⟨g, cap, rfl, by omega, rfl, World.grownBy.refl _ _⟩
  | some a =>
    have hnews := hcells a rfl
    rcases hown.2 with ⟨rfl, hn0⟩ | ⟨g, cap, cur, rfl, hbg, hg, hnc, hcm, hcs, htake⟩
    · have hown2 : w.ownsRow w.heap.size e size (.slice none 0 0) n xs := by
        subst hn0
        have hx : xs = [] := List.eq_nil_of_length_eq_zero (by simpa using hown.1)
        rw [hx]
        exact World.ownsRow_nil _ _ _ _
      obtain ⟨v', w', hr, ho, hgr, -⟩ := run_append_own (P := P) w w.heap.size t ty e i z size bytes ht hi hz hsize hby hzs hsz _ n xs hown2 a m c ys hl hnews h1 h63 hbytes (Nat.le_refl _)
      exact ⟨v', w', hr, ho.mono hbase, .inr ⟨(Below.refl _ _).grown hgr (Nat.le_refl _) (fun k hk => by simp [Value.ownBlock] at hk), fun k hk => (World.ownsRow.lt ho k hk).1⟩⟩
    · by_cases hroom : n + m ≤ cap
      · obtain ⟨w', hr, ho, hgr⟩ := run_append_own_spare (P := P) w base t ty e i size ht hi hsize g n cap xs hown a m c ys hl hnews h1 hroom
        exact ⟨_, w', hr, ho, .inl ⟨g, cap, rfl, hroom, rfl, hgr⟩⟩
      · subst hsize
        subst hby
        have hsmall : n + m ≤ 9223372036854775807 := by simp only [maxLen] at h63; omega
        have holds : ∀ j u, xs[j]? = some u → w.cell? ((⟨g, 0, none⟩ : Addr).add j) = some u := World.ownsRow.cells hown (g := g) rfl
        have hr := run_append_grow (P := P) w t ty e i z ht hi hz ⟨g, 0, none⟩ n cap xs hown.1 holds a m c ys hl hnews (by omega) (by omega) (growslice_fits (by omega) hbytes)
        have hlen : (xs ++ ys).length = (n + m) * i.size := by rw [List.length_append, hown.1, hl, Nat.add_mul]
        refine ⟨_, _, hr, ⟨hlen, .inr ⟨w.heap.size, _, _, rfl, hbase, heap_alloc_new w.drew _, grownCap_ge w (n + m) cap e, grownCap_le_maxLen w (n + m) cap e h63, ?_, ?_⟩⟩, .inr ⟨⟨rfl, rfl, rfl, by simp, fun k hk => Below.heap_alloc w.drew _ k hk⟩, fun k hk => by simp [Value.ownBlock] at hk; omega⟩⟩
        · have h2 := grownCap_ge w (n + m) cap e
          simp only [Array.size_append, List.size_toArray, size_zeroCells, hzs, hown.1, hl, ← Nat.add_mul]
          congr 1
          omega
        · rw [Array.toList_append, Array.toList_append, ← hlen]
          exact List.take_left
theorem wpList_append_src {ops : Array Oper} {rest : List Oper} {o : Oper} {a : Act} {Q : Exit → Act → World → Prop} (hgd : o.guard = none) (s x : Operand) (t : TypeId)
    (ho : o.op = .call { callee := .builtin .append, args := #[s, x], argTypes := #[t, t] })
    (base : Nat) (e : TypeId) (i : TypeInfo) (z : Value) (size bytes : Nat) (ht : P.underlying t = some (.slice e)) (hi : P.info? e = some i) (hz : i.zero = some z)
    (hsize : i.size = size) (hby : i.bytes = bytes) (hzs : z.cells.size = size) (hsz : 0 < size)
    (v : Value) (n : Nat) (xs : List Value) (hs : a.eval s = v) (hown : w.ownsRow base e size v n xs)
    (u : Value) (m : Nat) (ys : List Value) (hx : a.eval x = u) (hsrc : SrcAt w size u m ys) (h1 : ∀ x ∈ ys, x.oneCell' = true)
    (h63 : n + m ≤ maxLen) (hbytes : (n + m) * bytes ≤ 140737488355328) (hbase : base ≤ w.heap.size)
    (h : ∀ v' w', w'.ownsRow base e size v' (n + m) (xs ++ ys) → Hid (AppAlt w w' v v' n m) → wpList P ops Q rest (a.put o.dst v') w') : wpList P ops Q (o :: rest) a w := by
  refine wpList_plain hgd fun K hK => ?_
  obtain ⟨v', w', hrun, h2, h3⟩ := run_append_alt (P := P) base t o.type e i z size bytes ht hi hz hsize hby hzs hsz v n xs hown u m ys hsrc h1 h63 hbytes hbase
  unfold Oper.wp
  simp [execOp, ho, resolve, invoke, builtin, hs, hx, hrun, Result.andThen]
  exact hK _ _ (h v' w' h2 h3)
end
end Go.Proofs.YtofikgjoiidhmaaGreatDoor

namespace Go.Proofs.YtofikgjoiidhmaaGreatDoor
open Go.RowKit Go

theorem infoU32 : (Tryz.prog.info? 52).map (fun i => (i.zero, i.size, i.bytes)) = some (some (.int .u32 0), 1, 4) := by kernel_rfl
def copied (xs : List Nat) (i : Nat) : List Nat := xs.take i ++ List.replicate (xs.length - i) 0
theorem copied_len (xs : List Nat) (i : Nat) (h : i ≤ xs.length) : (copied xs i).length = xs.length := by simp [copied]; omega
theorem copied_zero (xs : List Nat) : (copied xs 0).map u32v = List.replicate xs.length (.int .u32 0) := by simp [copied, u32v]
theorem copied_full (xs : List Nat) : copied xs xs.length = xs := by simp [copied]
theorem copied_set {xs : List Nat} {i : Nat} (h : i < xs.length) : ((copied xs i).map u32v).set i (.int .u32 (xs[i] : Int)) = (copied xs (i + 1)).map u32v := by
  have e : Value.int .u32 (xs[i] : Int) = u32v xs[i] := rfl
  rw [e, List.map_set.symm]
  congr 1
  unfold copied
  obtain ⟨m, hm⟩ : ∃ m, xs.length - i = m + 1 := ⟨xs.length - i - 1, by omega⟩
  rw [hm, show xs.length - (i + 1) = m by omega, List.replicate_succ, List.set_append_right _ _ (by simp; omega)]
  have : i - (xs.take i).length = 0 := by simp; omega
  rw [this, List.set_cons_zero, List.take_succ_eq_append_getElem h, List.append_assoc]
  rfl

end Go.Proofs.YtofikgjoiidhmaaGreatDoor

namespace Go.Proofs.YtofikgjoiidhmaaGreatDoor
open Go.RowKit Go

end Go.Proofs.YtofikgjoiidhmaaGreatDoor

namespace Go.Proofs.YtofikgjoiidhmaaGreatDoor
open Go.RowKit Go

def iv (n : Int) : Value := .int .i32 n
/-- A list of numbers that can be read. -/
def RdI (w : World) (v : Value) (xs : List Int) : Prop :=
  ∃ (A : Option Addr) (cap : Nat), v = .slice A xs.length cap ∧ xs.length ≤ 4611686018427387904 ∧ ∀ i (h : i < xs.length), ∃ a, A = some a ∧ a.block < w.heap.size ∧ w.cell? (a.add i) = some (iv xs[i])
theorem RdI.below {w w' : World} {v : Value} {xs : List Int} (h : RdI w v xs) (hb : Below w.heap.size w w') : RdI w' v xs := by
  obtain ⟨A, cap, rfl, hl, hc⟩ := h
  refine ⟨A, cap, rfl, hl, fun i hi => ?_⟩
  obtain ⟨a, rfl, e2, e3⟩ := hc i hi
  exact ⟨a, rfl, by have := hb.size; omega, (hb.cell (by rw [addr_addb]; exact e2)).trans e3⟩
theorem RdI.of_own {w : World} {base : Nat} {e : TypeId} {v : Value} {xs : List Int} (h : w.ownsRow base e 1 v xs.length (xs.map iv)) (hl : xs.length ≤ 4611686018427387904) : RdI w v xs := by
  rcases h.2 with ⟨rfl, h0⟩ | ⟨g, cap, cur, rfl, hb, hg, hn, hm, hsz, ht⟩
  · refine ⟨none, 0, by rw [h0], hl, fun i hi => by omega⟩
  · refine ⟨_, cap, rfl, hl, fun i hi => ⟨⟨g, 0, none⟩, rfl, (Array.getElem?_eq_some_iff.1 hg).1, ?_⟩⟩
    rw [addr_lit, Nat.zero_add, cell_of_row w g i cur e (0, 0) hg]
    have h1 := congrArg (·[i]?) ht
    simpa [List.getElem?_take, hi] using h1
theorem RdI.form {w : World} {v : Value} {xs : List Int} (h : RdI w v xs) : ∃ A cap, v = .slice A xs.length cap := by
  obtain ⟨A, cap, e, -⟩ := h
  exact ⟨A, cap, e⟩
/-- A new list of numbers. -/
def NewI (w : World) (xs : List Int) (e : Ending) (w' : World) : Prop := ∃ v, e = .returned v ∧ w'.ownsRow w.heap.size 21 1 v xs.length (xs.map iv) ∧ Below w.heap.size w w'

/-- n marks, from k on. -/
def marksI (k n : Nat) : List Int := (List.range n).map fun j => ((k + j : Nat) : Int)
theorem marksI_len (k n : Nat) : (marksI k n).length = n := by simp [marksI]
theorem marksI_succ (k i : Nat) : marksI k (i + 1) = marksI k i ++ [((k + i : Nat) : Int)] := by unfold marksI; rw [List.range_succ]; simp
theorem marksI_set {xs : List Int} {k i : Nat} (h : i < xs.length) : ((marksI k i ++ xs.drop i).map iv).set i (.int .i32 ((k : Int) + (i : Int))) = (marksI k (i + 1) ++ xs.drop (i + 1)).map iv := by
  have e : Value.int .i32 ((k : Int) + (i : Int)) = iv ((k + i : Nat) : Int) := by unfold iv; push_cast; rfl
  rw [e, marksI_succ, List.map_append, List.map_append, List.set_append_right _ _ (by simp [marksI_len]), List.length_map, marksI_len, Nat.sub_self, List.drop_eq_getElem_cons h, List.map_cons, List.set_cons_zero]
  simp
/-- Where marking stands: block g holds i marks, then what it held. -/
structure MarkedI (W wr : World) (g : Nat) (n : Nat) (xs : List Int) (k i : Nat) (cap : Nat) (cur : Array Value) : Prop where
  blk : Blk wr g 21 cur
  size : cur.size = cap
  take : cur.toList.take n = (marksI k i ++ xs.drop i).map iv
  grown : W.grownBy wr (some g)
theorem MarkedI.step {W wr : World} {g : Nat} {xs : List Int} {k i cap : Nat} {cur : Array Value} (h : MarkedI W wr g xs.length xs k i cap cur) (hi : i < xs.length) :
    MarkedI W (wr.setCell ⟨g, i, none⟩ (.int .i32 ((k : Int) + (i : Int)))) g xs.length xs k (i + 1) cap (cur.setIfInBounds i (.int .i32 ((k : Int) + (i : Int)))) := by
  refine ⟨h.blk.put _ _, by simpa using h.size, ?_, only_setCell h.grown (.inl rfl) _⟩
  rw [Array.toList_setIfInBounds, List.take_set, h.take, marksI_set hi]
theorem MarkedI.cell {W wr : World} {g n : Nat} {xs : List Int} {k i cap : Nat} {cur : Array Value} (h : MarkedI W wr g n xs k i cap cur) (hi : i < cap) : ∃ u, wr.cell? ⟨g, i, none⟩ = some u ∧ wr.frozen? ⟨g, i, none⟩ = false := by
  have hs := h.size
  exact ⟨cur[i]'(by omega), by rw [h.blk.cell, Array.getElem?_eq_getElem (by omega)], h.blk.frozen i⟩

theorem marksI_get (k n i : Nat) (h : i < (marksI k n).length) : (marksI k n)[i] = (k : Int) + (i : Int) := by simp [marksI]
theorem infoI : (Tryz.prog.info? 21).map (fun i => (i.zero, i.size, i.bytes)) = some (some (.int .i32 0), 1, 4) := by kernel_rfl
def copiedI (xs : List Int) (i : Nat) : List Int := xs.take i ++ List.replicate (xs.length - i) 0
theorem copiedI_len (xs : List Int) (i : Nat) (h : i ≤ xs.length) : (copiedI xs i).length = xs.length := by simp [copiedI]; omega
theorem copiedI_zero (xs : List Int) : (copiedI xs 0).map iv = List.replicate xs.length (.int .i32 0) := by simp [copiedI, iv]
theorem copiedI_full (xs : List Int) : copiedI xs xs.length = xs := by simp [copiedI]
theorem copiedI_set {xs : List Int} {i : Nat} (h : i < xs.length) : ((copiedI xs i).map iv).set i (.int .i32 xs[i]) = (copiedI xs (i + 1)).map iv := by
  have e : Value.int .i32 xs[i] = iv xs[i] := rfl
  rw [e, List.map_set.symm]
  congr 1
  unfold copiedI
  obtain ⟨m, hm⟩ : ∃ m, xs.length - i = m + 1 := ⟨xs.length - i - 1, by omega⟩
  rw [hm, show xs.length - (i + 1) = m by omega, List.replicate_succ, List.set_append_right _ _ (by simp; omega)]
  have : i - (xs.take i).length = 0 := by simp; omega
  rw [this, List.set_cons_zero, List.take_succ_eq_append_getElem h, List.append_assoc]
  rfl

end Go.Proofs.YtofikgjoiidhmaaGreatDoor

namespace Go.Proofs.YtofikgjoiidhmaaGreatDoor
open Go.RowKit Go

abbrev stA (v : Value) : Value := .agg #[v]
/-- A new list of numbers, handed back as r tells. -/
def NewR (r : Value → Value) (w : World) (xs : List Nat) (e : Ending) (w' : World) : Prop := ∃ v, e = .returned (r v) ∧ w'.ownsRow w.heap.size 52 1 v xs.length (xs.map u32v) ∧ Below w.heap.size w w'
theorem RdN.form {w : World} {v : Value} {xs : List Nat} (h : RdN w v xs) : ∃ A cap, v = .slice A xs.length cap := by
  obtain ⟨A, cap, e, -⟩ := h
  exact ⟨A, cap, e⟩
/-- A slice's length is no more than its capacity. -/
def CapOk (v : Value) : Prop := ∀ A n c, v = .slice A n c → n ≤ c
theorem own_cap {w : World} {base : Nat} {e : TypeId} {v : Value} {n : Nat} {xs : List Value} (h : w.ownsRow base e 1 v n xs) : CapOk v := by
  intro A m c hv
  rcases h.2 with ⟨rfl, h0⟩ | ⟨g, cap, cur, rfl, hb, hg, hn, -⟩
  · injection hv with h1 h2 h3
    omega
  · injection hv with h1 h2 h3
    omega
theorem below_alloc (w : World) (o : Obj) : Below w.heap.size w (w.alloc o) := (Below.refl _ _).alloc (Nat.le_refl _) _
theorem below_alloc2 (w : World) (o1 o2 : Obj) : Below w.heap.size w ((w.alloc o1).alloc o2) := ((Below.refl _ _).alloc (Nat.le_refl _) _).alloc (by simp) _
theorem below_alloc3 (w : World) (o1 o2 o3 : Obj) : Below w.heap.size w (((w.alloc o1).alloc o2).alloc o3) := (((Below.refl _ _).alloc (Nat.le_refl _) _).alloc (by simp) _).alloc (by simp; omega) _
theorem own_below {w w' : World} {base B : Nat} {e : TypeId} {v : Value} {n : Nat} {xs : List Value} (h : w.ownsRow base e 1 v n xs) (hb : Below B w w') (hB : w.heap.size ≤ B) : w'.ownsRow base e 1 v n xs :=
  h.kept (row := none) ⟨hb.os, hb.tape, hb.output, hb.size, fun i hi _ => hb.block i (by omega)⟩ (by cases v.ownBlock <;> simp)
theorem own_form {w : World} {base : Nat} {e : TypeId} {v : Value} {n : Nat} {xs : List Value} (h : w.ownsRow base e 1 v n xs) : ∃ A cap, v = .slice A n cap := by
  rcases h.2 with ⟨rfl, h0⟩ | ⟨g, cap, cur, rfl, -⟩
  · exact ⟨none, 0, by rw [h0]⟩
  · exact ⟨_, _, rfl⟩
/-- What is owned, written out: the row's whole cells. -/
structure RowIs (w : World) (base : Nat) (e : TypeId) (g n cap : Nat) (cur xs : List Value) : Prop where
  base : base ≤ g
  row : w.heap[g]? = some (.cells cur.toArray e (0, 0))
  le : n ≤ cap
  max : cap ≤ maxLen
  len : cur.length = cap
  take : cur.take n = xs
theorem own_row {w : World} {base : Nat} {e : TypeId} {v : Value} {n : Nat} {xs : List Value} (h : w.ownsRow base e 1 v n xs) (hn : 0 < n) : ∃ g cap cur, v = .slice (some ⟨g, 0, none⟩) n cap ∧ RowIs w base e g n cap cur xs := by
  rcases h.2 with ⟨rfl, h0⟩ | ⟨g, cap, cur, rfl, hb, hg, hle, hm, hsz, ht⟩
  · omega
  · exact ⟨g, cap, cur.toList, rfl, hb, by simpa using hg, hle, hm, by simpa using hsz, by simpa using ht⟩
theorem RowIs.own {w : World} {base : Nat} {e : TypeId} {g n cap : Nat} {cur xs : List Value} (h : RowIs w base e g n cap cur xs) (hl : xs.length = n) : w.ownsRow base e 1 (.slice (some ⟨g, 0, none⟩) n cap) n xs :=
  ⟨by omega, .inr ⟨g, cap, cur.toArray, rfl, h.base, h.row, h.le, h.max, by simpa using h.len, by simpa using h.take⟩⟩
theorem RowIs.lt {w : World} {base : Nat} {e : TypeId} {g n cap : Nat} {cur xs : List Value} (h : RowIs w base e g n cap cur xs) : g < w.heap.size := (Array.getElem?_eq_some_iff.1 h.row).1
theorem own_full {w : World} {base : Nat} {e : TypeId} {g n : Nat} {xs : List Value} (h : w.ownsRow base e 1 (.slice (some ⟨g, 0, none⟩) n n) n xs) (hn : 0 < n) : w.heap[g]? = some (.cells xs.toArray e (0, 0)) := by
  obtain ⟨g2, cap, cur, hv, hr⟩ := own_row h hn
  injection hv with h1 h2 h3
  injection h1 with h1
  injection h1 with h1
  subst h1 h3
  have ht := hr.take
  rw [List.take_of_length_le (by rw [hr.len]; exact Nat.le_refl _)] at ht
  rw [← ht]
  exact hr.row
theorem own_of_full {w : World} {base : Nat} {e : TypeId} {g n : Nat} {xs : List Value} (h : w.heap[g]? = some (.cells xs.toArray e (0, 0))) (hl : xs.length = n) (hb : base ≤ g) (hm : n ≤ maxLen) : w.ownsRow base e 1 (.slice (some ⟨g, 0, none⟩) n n) n xs :=
  RowIs.own ⟨hb, h, Nat.le_refl _, hm, hl, List.take_of_length_le (by omega)⟩ hl
theorem own_put {w : World} {base : Nat} {e : TypeId} {v : Value} {n : Nat} {xs : List Value} (h : w.ownsRow base e 1 v n xs) {p : Addr} (hp : p.block < base) (u : Value) : (w.setCell p u).ownsRow base e 1 v n xs :=
  h.kept (row := some p.block) (only_setCell (World.grownBy.refl _ _) (.inl rfl) _) (.inr fun e => by have := own_lt h _ e; omega)
theorem boxes2 {w w1 : World} {cs1 cs2 : Array Value} {t1 t2 : TypeId} (hb : Below ((w.alloc (.cells cs1 t1)).alloc (.cells cs2 t2)).heap.size ((w.alloc (.cells cs1 t1)).alloc (.cells cs2 t2)) w1) :
    Blk w1 w.heap.size t1 cs1 ∧ Blk w1 (w.heap.size + 1) t2 cs2 ∧ Below w.heap.size w w1 ∧ w.heap.size + 2 ≤ w1.heap.size := by
  have e : (w.alloc (.cells cs1 t1)).heap.size = w.heap.size + 1 := by simp
  have h2 := (Blk.new (w.alloc (.cells cs1 t1)) t2 cs2).below hb (by simp)
  rw [e] at h2
  exact ⟨((Blk.new w t1 cs1).alloc (.cells cs2 t2)).below hb (by simp; omega), h2, (((Below.refl _ _).alloc (Nat.le_refl _) _).alloc (by simp) _).trans (hb.mono (by simp; omega)), by have := hb.size; simp at this; omega⟩
theorem boxes1 {w w1 : World} {cs1 : Array Value} {t1 : TypeId} (hb : Below (w.alloc (.cells cs1 t1)).heap.size (w.alloc (.cells cs1 t1)) w1) :
    Blk w1 w.heap.size t1 cs1 ∧ Below w.heap.size w w1 ∧ w.heap.size + 1 ≤ w1.heap.size :=
  ⟨(Blk.new w t1 cs1).below hb (by simp), ((Below.refl _ _).alloc (Nat.le_refl _) _).trans (hb.mono (by simp)), by have := hb.size; simp at this; omega⟩
theorem st_blk {w : World} {g : Nat} {t : TypeId} {v0 : Value} (h : Blk w g t #[v0]) (v : Value) : Blk (w.setCell ⟨g, 0, none⟩ v) g t #[v] := by
  have := h.put 0 v
  simpa using this

end Go.Proofs.YtofikgjoiidhmaaGreatDoor

namespace Go.Proofs.YtofikgjoiidhmaaGreatDoor
open Go.RowKit Go

theorem rd_own {w : World} {base : Nat} {e : TypeId} {v : Value} {n : Nat} {ls : List Nat} (h : w.ownsRow base e 1 v n (ls.map u32v)) (hl : n ≤ 4611686018427387904) : RdN w v ls := by
  have hn : ls.length = n := by have := h.1; simpa using this
  subst hn
  exact RdN.of_own h hl
theorem RdN.drew {w : World} {v : Value} {xs : List Nat} (h : RdN w v xs) : RdN w.drew v xs := h
theorem own_apart {u v : Value} {B C : Nat} (hu : ∀ k, u.ownBlock = some k → k < B) (hv : ∀ k, v.ownBlock = some k → C ≤ k) (h : B ≤ C) : u.ownBlock = none ∨ u.ownBlock ≠ v.ownBlock := by
  cases hq : u.ownBlock with
  | none => exact .inl rfl
  | some k => exact .inr fun e => by have h1 := hu k hq; have h2 := hv k e.symm; omega
theorem own_apart2 {u v : Value} {B C : Nat} (hu : ∀ k, u.ownBlock = some k → C ≤ k) (hv : ∀ k, v.ownBlock = some k → k < B) (h : B ≤ C) : u.ownBlock = none ∨ u.ownBlock ≠ v.ownBlock := by
  cases hq : u.ownBlock with
  | none => exact .inl rfl
  | some k => exact .inr fun e => by have h1 := hu k hq; have h2 := hv k e.symm; omega
theorem box_ne {W : World} {g base : Nat} {t e : TypeId} {cs : Array Value} {v : Value} {n : Nat} {xs : List Value} (hk : Blk W g t cs) (ho : W.ownsRow base e 1 v n xs) (ht : t ≠ e) : some g ≠ v.ownBlock := by
  rcases ho.2 with ⟨rfl, -⟩ | ⟨q, cap, cur, rfl, -, hq, -⟩
  · simp [Value.ownBlock]
  · intro h
    have h : g = q := by simpa [Value.ownBlock] using h
    subst h
    unfold Blk at hk
    rw [hk] at hq
    injection hq with h1
    injection h1 with _ h2
    exact ht h2
end Go.Proofs.YtofikgjoiidhmaaGreatDoor
