/-
  The model's cursor and its draws: numbers, texts, names; the bytes that come in.
-/
import Derived.Test.YtllhcdkbgknjdaaKit
import Derived.Test.YtllhcdkbgknjdaaBlk
import Derived.Test.YtllhcdkbgknjdaaLaw
import Derived.Laws.BitsAllLaws
import Derived.Laws.BitsLemmas
import Derived.BigCall
import Derived.BigGuard
import Derived.Test.YtllhcdkbgknjdaaU32
import Derived.Test.YtllhcdkbgknjdaaPackMath
import Derived.Laws.BytesArg
import Derived.Test.YtllhcdkbgknjdaaLetters2
import Derived.OwnWalk
namespace Go.Proofs.Ytllhcdkbgknjdaa
open Go.RowKit

/-- The bytes of a slice that came in. -/
def CodeOk (w : World) (B : Nat) (A : Option Addr) (len : Nat) : Prop :=
  len ≤ 9223372036854775807 ∧ ∀ j, j < len → ∃ ad z, A = some ad ∧ ad.block < B ∧ 0 ≤ z ∧ z ≤ 255 ∧ w.cell? (ad.add j) = some (.int .u8 z)
theorem addr_add_block (a : Addr) (n : Nat) : (a.add n).block = a.block := by unfold Addr.add; split <;> rfl
theorem CodeOk.keep {w w' : World} {B len : Nat} {A : Option Addr} (h : CodeOk w B A len) (hk : ∀ p : Addr, p.block < B → w'.cell? p = w.cell? p) : CodeOk w' B A len :=
  ⟨h.1, fun j hj => by obtain ⟨ad, z, e, hb, h0, h1, hc⟩ := h.2 j hj; exact ⟨ad, z, e, hb, h0, h1, (hk _ (by rw [addr_add_block]; exact hb)).trans hc⟩⟩
theorem CodeOk.more {w : World} {B B' len : Nat} {A : Option Addr} (h : CodeOk w B A len) (hB : B ≤ B') : CodeOk w B' A len :=
  ⟨h.1, fun j hj => by obtain ⟨ad, z, e, hb, r⟩ := h.2 j hj; exact ⟨ad, z, e, by omega, r⟩⟩
theorem CodeOk.below {w w' : World} {B len : Nat} {A : Option Addr} (h : CodeOk w B A len) (hb : Below B w w') : CodeOk w' B A len := h.keep fun _ hp => hb.cell hp

/-- Block g is a cursor. -/
def CurAt (w : World) (g : Nat) : Prop :=
  ∃ (A : Option Addr) (len cap : Nat) (i : Nat) (h : Int), Blk w g 52 #[.slice A len cap, .int .i64 i, .int .i64 h] ∧ i ≤ len ∧ CodeOk w g A len
theorem CurAt.grown {w w' : World} {g : Nat} {row : Option Nat} (h : CurAt w g) (hg : w.grownBy w' row) (hr : ∀ k, row = some k → g < k) : CurAt w' g := by
  obtain ⟨A, len, cap, i, x, hb, hi, hc⟩ := h
  have hlt := hb.lt
  refine ⟨A, len, cap, i, x, hb.grown hg (fun e => by have := hr g e.symm; omega), hi, hc.keep fun p hp => World.cell?_of_block (hg.block p.block (by omega) (fun e => by have := hr _ e.symm; omega))⟩
theorem CurAt.below {w w' : World} {g : Nat} (h : CurAt w g) (hb : Below w.heap.size w w') : CurAt w' g := by
  obtain ⟨A, len, cap, i, x, hk, hi, hc⟩ := h
  exact ⟨A, len, cap, i, x, hk.below hb hk.lt, hi, hc.keep fun p hp => hb.cell (by have := hk.lt; omega)⟩

theorem and255 (y : Int) : 0 ≤ bits .and .i64 y 255 ∧ bits .and .i64 y 255 ≤ 255 := by
  have h : bits .and .i64 y 255 = IntKind.i64.wrap ((BitVec.ofInt 64 y &&& BitVec.ofInt 64 255).toNat : Int) := rfl
  have hle : (BitVec.ofInt 64 y &&& BitVec.ofInt 64 255).toNat ≤ 255 := by
    rw [BitVec.toNat_and]
    exact Nat.le_trans Nat.and_le_right (by decide)
  rw [h, IntKind.wrap_i64]
  omega

/-- What comes of a step of the cursor: a byte; only block g has changed. -/
def Drew (g : Nat) (w : World) (lo hi : Int) (e : Ending) (w' : World) : Prop := ∃ x : Int, e = .returned (.int .i64 x) ∧ (lo ≤ x ∧ x ≤ hi) ∧ CurAt w' g ∧ w.grownBy w' (some g)

set_option maxRecDepth 100000 in
set_option maxHeartbeats 2000000 in
theorem byte_any (g : Nat) (w : World) (hc : CurAt w g) : Calls Try.prog 25 #[.pointer (some ⟨g, 0, none⟩)] w (Drew g w 0 255) := by
  obtain ⟨A, len, cap, i, h, hb, hi, hcode⟩ := hc
  have c0 := hb.cell 0
  have c1 := hb.cell 1
  have c2 := hb.cell 2
  have f1 := hb.frozen 1
  have f2 := hb.frozen 2
  simp at c0 c1 c2
  have HB := Lib.hid hb
  have HC := Lib.hid hcode
  clear hb hcode
  go_enter Try.func25, Try.ntmps25
  go_wp2
  obtain ⟨h2, hh⟩ : ∃ h2, wrap64 (wrap64 (h * 6364136223846793005) + 1442695040888963407) = h2 := ⟨_, rfl⟩
  rw [hh]
  have hb1 := HB.out.put 2 (.int .i64 h2)
  have hg1 : w.grownBy (w.setCell ⟨g, 2, none⟩ (.int .i64 h2)) (some g) := only_setCell (World.grownBy.refl w _) (.inl rfl) _
  have hcd1 : CodeOk (w.setCell ⟨g, 2, none⟩ (.int .i64 h2)) g A len := HC.out.keep fun p hp => World.cell?_setCell_other w ⟨g, 2, none⟩ p _ (fun e => by subst e; simp at hp)
  obtain ⟨W1, hW⟩ : ∃ W1, w.setCell ⟨g, 2, none⟩ (.int .i64 h2) = W1 := ⟨_, rfl⟩
  rw [hW] at hb1 hg1 hcd1 ⊢
  clear hW hh c0 c1 c2 f1 f2 HB HC
  simp at hb1
  have c0 := hb1.cell 0
  have c1 := hb1.cell 1
  have c2 := hb1.cell 2
  have f1 := hb1.frozen 1
  simp at c0 c1 c2
  have HB := Lib.hid hb1
  have HG := Lib.hid hg1
  have HC := Lib.hid hcd1
  clear hb1 hg1 hcd1
  go_quiet (fail)
  go_wp2
  have hx := and255 (bits BinOp.xor IntKind.i64 (h2 / 8589934592) (h2 / 35184372088832))
  obtain ⟨x0, hx0⟩ : ∃ x0, bits BinOp.and IntKind.i64 (bits BinOp.xor IntKind.i64 (h2 / 8589934592) (h2 / 35184372088832)) 255 = x0 := ⟨_, rfl⟩
  rw [hx0] at hx ⊢
  clear hx0
  obtain ⟨hx0, hx1⟩ := hx
  by_cases hlt : i < len
  · have hlt' : (i : Int) < (len : Int) := by omega
    have hlen := HC.out.1
    obtain ⟨ad, z, hA, hadb, hz0, hz1, hz⟩ := HC.out.2 i hlt
    subst hA
    go_quiet (fail)
    go_wp2
    go_quiet (fail)
    go_wp2
    have hy := and255 (x0 + z)
    go_ret
    have hb2 : ∀ m, Blk ((W1.drewN m).setCell ⟨g, 1, none⟩ (.int .i64 ((i : Int) + 1))) g 52 #[.slice (some ad) len cap, .int .i64 ((i : Int) + 1), .int .i64 h2] := fun m => by
      have h := Blk.put (w := W1.drewN m) HB.out 1 (.int .i64 ((i : Int) + 1))
      simpa using h
    exact ⟨_, rfl, hy, ⟨some ad, len, cap, i + 1, h2, hb2 _, by omega, HC.out.keep fun p hp => World.cell?_setCell_other (W1.drewN _) ⟨g, 1, none⟩ p _ (fun e => by subst e; simp at hp)⟩, only_setCell (only_drewN HG.out _) (.inl rfl) _⟩
  · have hlt' : (len : Int) ≤ (i : Int) := by omega
    go_quiet (fail)
    go_wp2
    go_ret
    exact ⟨x0, rfl, ⟨hx0, hx1⟩, ⟨A, len, cap, i, h2, HB.out, hi, HC.out⟩, only_drewN (only_drewN HG.out _) _⟩

/-- A number of 0 .. n-1 is drawn; 0 where n is not above 0. -/
theorem below_any (g : Nat) (n : Int) (h0 : -9223372036854775808 ≤ n) (h1 : n ≤ 9223372036854775807) (w : World) (hc : CurAt w g) : Calls Try.prog 15 #[.pointer (some ⟨g, 0, none⟩), .int .i64 n] w (Drew g w 0 (if n ≤ 0 then 0 else n - 1)) := by
  have HC := Lib.hid hc
  clear hc
  by_cases hn : n ≤ 0
  · rw [if_pos hn]
    have HN := Lib.hid hn
    go_enter Try.func15, Try.ntmps15
    go_wp2
    go_ret
    exact ⟨0, rfl, ⟨by omega, by omega⟩, HC.out, World.grownBy.refl _ _⟩
  · rw [if_neg hn]
    by_cases h256 : n ≤ 256
    · have hn' : 0 < n := by omega
      clear hn
      go_enter Try.func15, Try.ntmps15
      go_wp2_with (go_at_call 25; refine (byte_any g _ HC.out).mono ?_; rintro e w' ⟨x, rfl, ⟨hx0, hx1⟩, hc2, hg2⟩)
      go_ret
      exact ⟨_, rfl, ⟨Int.emod_nonneg _ (by omega), by have := Int.emod_lt_of_pos x hn'; omega⟩, hc2, hg2⟩
    · have hn' : 256 < n := by omega
      clear hn h256
      go_enter Try.func15, Try.ntmps15
      go_wp2_with fail
      refine (byte_any g _ HC.out).mono ?_
      rintro e w1 ⟨x1, rfl, ⟨hx10, hx11⟩, hc1, hg1⟩
      go_wp2_with fail
      refine (byte_any g _ hc1).mono ?_
      rintro e w2 ⟨x2, rfl, ⟨hx20, hx21⟩, hc2, hg2⟩
      go_wp2_with fail
      refine (byte_any g _ hc2).mono ?_
      rintro e w3 ⟨x3, rfl, ⟨hx30, hx31⟩, hc3, hg3⟩
      go_wp2_with fail
      refine (byte_any g _ hc3).mono ?_
      rintro e w4 ⟨x4, rfl, ⟨hx40, hx41⟩, hc4, hg4⟩
      go_wp2_with fail
      go_ret
      exact ⟨_, rfl, ⟨Int.emod_nonneg _ (by omega), by have := Int.emod_lt_of_pos (x1 * 16777216 + x2 * 65536 + x3 * 256 + x4) (show 0 < n by omega); omega⟩, hc4, only_trans (only_trans (only_trans hg1 hg2) hg3) hg4⟩
end Go.Proofs.Ytllhcdkbgknjdaa

namespace Go.Proofs.Ytllhcdkbgknjdaa
open Go.RowKit

/-- What comes of making a cursor: a pointer to a block of the call's own. -/
def Made (w : World) (e : Ending) (w' : World) : Prop := ∃ g : Nat, e = .returned (.pointer (some ⟨g, 0, none⟩)) ∧ w.heap.size ≤ g ∧ CurAt w' g ∧ Below w.heap.size w w'

set_option maxHeartbeats 1000000 in
theorem new_any (A : Option Addr) (len cap : Nat) (w : World) (hcode : CodeOk w w.heap.size A len) : Calls Try.prog 13 #[.slice A len cap] w (Made w) := by
  have hlen := hcode.1
  have HC := Lib.hid hcode
  clear hcode
  go_enter Try.func13, Try.ntmps13
  go_wp2
  go_loop [3, 4] (fun h i => ∃ (k : Nat) (x : Int), k ≤ len ∧ i = .int .i64 k ∧ h = .int .i64 x) (fun _ i => len - (intOf i).toNat)
  case atStart => exact ⟨0, _, by omega, rfl, rfl⟩
  case round =>
    obtain ⟨k, x, hk, rfl, rfl⟩ := hrel
    by_cases hks : k < len
    · obtain ⟨ad, z, hA, hadb, hz0, hz1, hz⟩ := HC.out.2 k hks
      subst hA
      by_cases h4 : k < 4000
      · have h4' : decide ((k : Int) < 4000) = true := by simp; omega
        go_wp2
        go_round
        case rel => exact ⟨k + 1, _, by omega, by go_num, rfl⟩
        case measure => simp [intOf]; omega
      · have h4' : decide ((k : Int) < 4000) = false := by simp; omega
        go_wp2
        go_ret
        exact ⟨w.heap.size, rfl, Nat.le_refl _, ⟨some ad, len, cap, 0, _, Blk.new _ _ _, by omega, HC.out.below ((Below.refl _ _).alloc (Nat.le_refl _) _)⟩, (Below.refl _ _).alloc (Nat.le_refl _) _⟩
    · have hks' : decide ((k : Int) < (len : Int)) = false := by simp; omega
      go_wp2
      go_ret
      exact ⟨w.heap.size, rfl, Nat.le_refl _, ⟨A, len, cap, 0, _, Blk.new _ _ _, by omega, HC.out.below ((Below.refl _ _).alloc (Nat.le_refl _) _)⟩, (Below.refl _ _).alloc (Nat.le_refl _) _⟩
end Go.Proofs.Ytllhcdkbgknjdaa

namespace Go.Proofs.Ytllhcdkbgknjdaa
open Go.RowKit

/-- A block of numbers. -/
def IntsAt (w : World) (b : Nat) (zs : List Int) : Prop := ∀ j (h : j < zs.length), w.cell? ⟨b, j, none⟩ = some (.int .i64 zs[j])
theorem ints_new (w : World) (t : TypeId) (zs : List Int) : IntsAt (w.alloc (.cells (zs.map (Value.int .i64)).toArray t)) w.heap.size zs := fun j h => by
  rw [(Blk.new w t _).cell]
  simp [h]
def Picked (g : Nat) (w : World) (zs : List Int) (e : Ending) (w' : World) : Prop := ∃ x : Int, e = .returned (.int .i64 x) ∧ x ∈ zs ∧ CurAt w' g ∧ w.grownBy w' (some g)
theorem pickint_any (g b : Nat) (zs : List Int) (w : World) (hc : CurAt w g) (hl : IntsAt w b zs) (hb : b ≠ g) (hblt : b < w.heap.size) (hn : 1 ≤ zs.length) (hn2 : zs.length ≤ 1000) :
    Calls Try.prog 33 #[.pointer (some ⟨g, 0, none⟩), .slice (some ⟨b, 0, none⟩) zs.length zs.length] w (Picked g w zs) := by
  have HC := Lib.hid (below_any g (zs.length : Int) (by omega) (by omega) w hc)
  have HL := Lib.hid hl
  have HN := Lib.hid hb
  clear hc hl hb
  go_enter Try.func33, Try.ntmps33
  go_wp2_with fail
  refine HC.out.mono ?_
  rintro e w1 ⟨x, rfl, ⟨hx0, hx1⟩, hc1, hg1⟩
  rw [if_neg (by omega)] at hx1
  obtain ⟨j, rfl⟩ : ∃ j : Nat, x = j := ⟨x.toNat, by omega⟩
  have hj : j < zs.length := by omega
  have hcell : w1.cell? ⟨b, j, none⟩ = some (.int .i64 zs[j]) := (World.cell?_of_block (hg1.block b hblt (fun e => HN.out (by injection e)))).trans (HL.out j hj)
  have HG := Lib.hid hg1
  go_wp2_with fail
  go_ret
  exact ⟨zs[j], rfl, List.getElem_mem _, hc1, HG.out⟩

def DrewWord (g : Nat) (w : World) (e : Ending) (w' : World) : Prop := ∃ x : Nat, e = .returned (.int .u32 x) ∧ x < 4294967296 ∧ CurAt w' g ∧ w.grownBy w' (some g)
theorem u32_nat (x : Int) : ∃ n : Nat, IntKind.u32.wrap x = (n : Int) ∧ n < 4294967296 := ⟨(x % 4294967296).toNat, by rw [IntKind.wrap_u32]; omega, by omega⟩

theorem ret_u32 {a b : Int} (h : a = b) : Ending.returned (.int .u32 a) = .returned (.int .u32 b) := by rw [h]
set_option maxHeartbeats 2000000 in
theorem word_any (g : Nat) (w : World) (hc : CurAt w g) : Calls Try.prog 23 #[.pointer (some ⟨g, 0, none⟩)] w (DrewWord g w) := by
  have hglt : g < w.heap.size := by obtain ⟨_, _, _, _, _, hb, _⟩ := hc; exact hb.lt
  have HC := Lib.hid (below_any g 4 (by omega) (by omega) w hc)
  clear hc
  go_enter Try.func23, Try.ntmps23
  go_wp2_with fail
  refine HC.out.mono ?_
  rintro e w1 ⟨x, rfl, ⟨hx0, hx1⟩, hc1, hg1⟩
  have hglt1 : g < w1.heap.size := by have := hg1.size; omega
  have HG := Lib.hid hg1
  clear hg1
  by_cases h0 : x = 0
  · have h0' : (x == 0) = true := by simpa using h0
    clear h0
    go_wp2_with fail
    refine (pickint_any g w1.heap.size [0, 1, 2, 31, 32, 255, 256, 2147483647, 2147483648, 4294967295, 4294967294] _ (hc1.grown (World.grownBy_alloc w1 _ none) (fun _ h => by cases h)) (ints_new w1 3 [0, 1, 2, 31, 32, 255, 256, 2147483647, 2147483648, 4294967295, 4294967294]) (by omega) (by simp) (by decide) (by decide)).mono ?_
    rintro e w2 ⟨y, rfl, -, hc2, hg2⟩
    obtain ⟨n, hn, hnb⟩ := u32_nat y
    have HG2 := Lib.hid hg2
    have HNB := Lib.hid hnb
    clear hg2 hnb
    go_wp2_with fail
    go_ret
    exact ⟨n, rfl, HNB.out, hc2, only_trans (only_alloc HG.out _) HG2.out⟩
  · have h0' : (x == 0) = false := by simpa using h0
    by_cases h1 : x = 1
    · have h1' : (x == 1) = true := by simpa using h1
      clear h0 h1
      go_wp2_with fail
      refine (below_any g 300 (by omega) (by omega) _ hc1).mono ?_
      rintro e w2 ⟨y, rfl, ⟨hy0, hy1⟩, hc2, hg2⟩
      have hy2 : y ≤ 299 := by simpa using hy1
      obtain ⟨n, rfl⟩ : ∃ n : Nat, y = n := ⟨y.toNat, by omega⟩
      have HG2 := Lib.hid hg2
      clear hg2 hy1
      go_wp2_with fail
      go_ret
      exact ⟨n, rfl, by omega, hc2, only_trans HG.out HG2.out⟩
    · have h1' : (x == 1) = false := by simpa using h1
      clear h0 h1
      go_wp2_with fail
      refine (below_any g 65536 (by omega) (by omega) _ hc1).mono ?_
      rintro e w2 ⟨y, rfl, ⟨hy0, hy1⟩, hc2, hg2⟩
      have hy2 : y ≤ 65535 := by simpa using hy1
      have HG2 := Lib.hid hg2
      clear hg2 hy1
      go_wp2_with fail
      refine (below_any g 65536 (by omega) (by omega) _ hc2).mono ?_
      rintro e w3 ⟨z, rfl, ⟨hz0, hz1⟩, hc3, hg3⟩
      have hz2 : z ≤ 65535 := by simpa using hz1
      have HG3 := Lib.hid hg3
      clear hg3 hz1
      go_wp2_with fail
      go_ret
      exact ⟨(y * 65536 + z).toNat, ret_u32 (by omega), by omega, hc3, only_trans (only_trans HG.out HG2.out) HG3.out⟩
end Go.Proofs.Ytllhcdkbgknjdaa

namespace Go.Proofs.Ytllhcdkbgknjdaa
open Go.RowKit

/-- A block of texts. -/
def StrsAt (w : World) (b : Nat) (zs : List ByteArray) : Prop := ∀ j (h : j < zs.length), w.cell? ⟨b, j, none⟩ = some (.string zs[j])
theorem strs_new (w : World) (t : TypeId) (zs : List ByteArray) : StrsAt (w.alloc (.cells (zs.map Value.string).toArray t)) w.heap.size zs := fun j h => by
  rw [(Blk.new w t _).cell]
  simp [h]
def PickedS (g : Nat) (w : World) (zs : List ByteArray) (e : Ending) (w' : World) : Prop := ∃ x : ByteArray, e = .returned (.string x) ∧ x ∈ zs ∧ CurAt w' g ∧ w.grownBy w' (some g)
theorem pick_any (g b : Nat) (zs : List ByteArray) (w : World) (hc : CurAt w g) (hl : StrsAt w b zs) (hb : b ≠ g) (hblt : b < w.heap.size) (hn : 1 ≤ zs.length) (hn2 : zs.length ≤ 1000) :
    Calls Try.prog 24 #[.pointer (some ⟨g, 0, none⟩), .slice (some ⟨b, 0, none⟩) zs.length zs.length] w (PickedS g w zs) := by
  have HC := Lib.hid (below_any g (zs.length : Int) (by omega) (by omega) w hc)
  have HL := Lib.hid hl
  have HN := Lib.hid hb
  clear hc hl hb
  go_enter Try.func24, Try.ntmps24
  go_wp2_with fail
  refine HC.out.mono ?_
  rintro e w1 ⟨x, rfl, ⟨hx0, hx1⟩, hc1, hg1⟩
  rw [if_neg (by omega)] at hx1
  obtain ⟨j, rfl⟩ : ∃ j : Nat, x = j := ⟨x.toNat, by omega⟩
  have hj : j < zs.length := by omega
  have hcell : w1.cell? ⟨b, j, none⟩ = some (.string zs[j]) := (World.cell?_of_block (hg1.block b hblt (fun e => HN.out (by injection e)))).trans (HL.out j hj)
  have HG := Lib.hid hg1
  go_wp2_with fail
  go_ret
  exact ⟨zs[j], rfl, List.getElem_mem _, hc1, HG.out⟩
end Go.Proofs.Ytllhcdkbgknjdaa

namespace Go.Proofs.Ytllhcdkbgknjdaa
open Go.RowKit Go

def u8v (c : UInt8) : Value := .int .u8 (c.toNat : Int)
theorem infoU8 : (Try.prog.info? 5).map (fun i => (i.zero, i.size, i.bytes)) = some (some (.int .u8 0), 1, 1) := by kernel_rfl
/-- 'string(b)' of bytes of the call's own. -/
theorem own_string {P : Program} {w : World} {base : Nat} {src dst e : TypeId} {v : Value} {l : List UInt8} (hs : P.underlying src = some (.slice e)) (he : P.underlying e = some (.int .u8)) (hd : P.underlying dst = some .string)
    (h : w.ownsRow base e 1 v l.length (l.map u8v)) : (convert src dst v).run P w = .ok (.string ⟨l.toArray⟩) w := by
  rcases h.2 with ⟨rfl, h0⟩ | ⟨g, cap, cur, rfl, hb, hg, hn, hm, hsz, ht⟩
  · have hl : l = [] := List.eq_nil_of_length_eq_zero h0
    subst hl
    exact run_convert_bytes_nil w src e hs he 0 0 dst hd
  · refine run_convert_bytes_back w src dst e _ _ l hs he hd fun j hj => ?_
    rw [addr_lit, Nat.zero_add, cell_of_row w g j cur e (0, 0) hg]
    have h1 := congrArg (·[j]?) ht
    simpa [List.getElem?_take, hj, u8v] using h1
theorem byteAt_int {k : Nat} (h : k < 48) : letAt (k : Int) = ((byteAt (k : Int)).toNat : Int) := by
  obtain ⟨_, h2, h3⟩ := back_all k h
  unfold byteAt
  rw [UInt8.toNat_ofNat_of_lt' (by show _ < 256; omega)]
  omega
end Go.Proofs.Ytllhcdkbgknjdaa

namespace Go.Proofs.Ytllhcdkbgknjdaa
open Go.RowKit Go

theorem once_any (g : Nat) (n : Nat) (h1 : n ≤ 1000) (w : World) (hc : CurAt w g) : Calls Try.prog 31 #[.pointer (some ⟨g, 0, none⟩), .int .i64 (n : Int)] w fun e w' => ∃ b : Bool, e = .returned (.bool b) ∧ CurAt w' g ∧ w.grownBy w' (some g) := by
  have HC := Lib.hid (below_any g (n : Int) (by omega) (by omega) w hc)
  clear hc
  go_enter Try.func31, Try.ntmps31
  go_wp2_with fail
  refine HC.out.mono ?_
  rintro e w1 ⟨x, rfl, -, hc1, hg1⟩
  have HG := Lib.hid hg1
  have HC1 := Lib.hid hc1
  clear hg1 hc1
  go_wp2_with fail
  go_ret
  exact ⟨_, rfl, HC1.out, HG.out⟩
theorem cur_lt {w : World} {g : Nat} (h : CurAt w g) : g < w.heap.size := by
  obtain ⟨_, _, _, _, _, hb, _⟩ := h
  exact hb.lt
theorem only_app {w wr w1 : World} {g : Nat} {row : Option Nat} (h : w.grownBy wr (some g)) (hg : wr.grownBy w1 row) (hr : ∀ k, row = some k → w.heap.size ≤ k) : w.grownBy w1 (some g) :=
  ⟨hg.os.trans h.os, hg.tape.trans h.tape, hg.output.trans h.output, Nat.le_trans h.size hg.size, fun i hi hne => (hg.block i (Nat.lt_of_lt_of_le hi h.size) (fun e => by have := hr i e.symm; omega)).trans (h.block i hi hne)⟩
theorem own_ne {w : World} {base : Nat} {e : TypeId} {size : Nat} {v : Value} {n : Nat} {xs : List Value} {g : Nat} (h : w.ownsRow base e size v n xs) (hg : g < base) : v.ownBlock = none ∨ v.ownBlock ≠ some g :=
  .inr (fun e => by have := own_lt h g e; omega)
/-- A name is drawn, of at most nine bytes. -/
def NamedS (g : Nat) (w : World) (e : Ending) (w' : World) : Prop := ∃ s : ByteArray, e = .returned (.string s) ∧ s.size ≤ 9 ∧ CurAt w' g ∧ w.grownBy w' (some g)
def drawnNames : List ByteArray := [⟨#[100, 117, 112]⟩, ⟨#[111, 118, 101, 114]⟩, ⟨#[115, 113, 117, 97, 114, 101]⟩, ⟨#[97, 33]⟩, ⟨#[50, 42]⟩, ⟨#[103, 111]⟩, ⟨#[45, 105, 102]⟩, ⟨#[59]⟩, ⟨#[63]⟩, ⟨#[114, 114, 114, 114, 114, 114, 114]⟩, ⟨#[114, 116, 111, 101, 97, 110, 105]⟩, ⟨#[119, 119, 119, 119, 119, 119]⟩, ⟨#[113, 113, 113, 113, 113]⟩, ⟨#[120]⟩]
theorem drawnNames_size : ∀ x ∈ drawnNames, x.size ≤ 9 := by decide

set_option maxRecDepth 100000 in
set_option maxHeartbeats 2000000 in
theorem name_any (g : Nat) (w : World) (hc : CurAt w g) : Calls Try.prog 32 #[.pointer (some ⟨g, 0, none⟩)] w (NamedS g w) := by
  obtain ⟨i0, hinf, hz0, hz1, hz2⟩ := info_parts infoU8
  have HO := Lib.hid (once_any g 2 (by decide) w hc)
  have hgl := cur_lt hc
  clear hc
  go_enter Try.func32, Try.ntmps32
  go_wp2_with fail
  refine HO.out.mono ?_
  rintro e w1 ⟨b, rfl, hc1, hg1⟩
  have HC1 := Lib.hid hc1
  have HG1 := Lib.hid hg1
  have hs1 := hg1.size
  clear hc1 hg1 HO
  cases b with
  | true =>
    have PK := pick_any g w1.heap.size drawnNames _ (HC1.out.grown (World.grownBy_alloc w1 _ none) (fun _ h => by cases h)) (strs_new w1 9 drawnNames) (by omega) (by simp) (by decide) (by decide)
    have HPK := Lib.hid PK
    clear PK
    go_wp2_with fail
    refine HPK.out.mono ?_
    rintro e w2 ⟨x, rfl, hx, hc2, hg2⟩
    have hx9 := drawnNames_size x hx
    have HC2 := Lib.hid hc2
    have HG2 := Lib.hid (only_trans (only_alloc HG1.out _) hg2)
    clear hx hc2 hg2
    go_wp2_with fail
    go_ret
    exact ⟨x, rfl, hx9, HC2.out, HG2.out⟩
  | false =>
    have HB := Lib.hid (below_any g 9 (by omega) (by omega) _ (HC1.out.grown (World.grownBy_alloc w1 (.cells #[] 5) none) (fun _ h => by cases h)))
    have HE := Lib.hid (own_empty w1 5)
    go_wp2_with fail
    refine HB.out.mono ?_
    rintro e w2 ⟨y, rfl, ⟨hy0, hy1⟩, hc2, hg2⟩
    have hy2 : y ≤ 8 := by simpa using hy1
    have hO2 := HE.out.kept hg2 (own_ne HE.out (by omega))
    have hG2 := only_trans (only_alloc HG1.out (.cells #[] 5)) hg2
    have HO2 := Lib.hid hO2
    have HG2 := Lib.hid hG2
    have HC2 := Lib.hid hc2
    clear hy1 hc2 hg2 hO2 hG2 HB HE
    go_wp2_with fail
    go_loopw [3, 5] (fun vo vi wr => ∃ (i : Nat) (l : List UInt8), vi = .int .i64 i ∧ l.length = i ∧ (i : Int) ≤ 1 + y ∧ wr.ownsRow w1.heap.size 5 1 vo l.length (l.map u8v) ∧ Hid (CurAt wr g ∧ w.grownBy wr (some g) ∧ w1.heap.size ≤ wr.heap.size)) (fun _ vi _ => (1 + y).toNat - (intOf vi).toNat)
    case atStart => exact ⟨0, [], rfl, rfl, by omega, HO2.out, Lib.hid ⟨HC2.out, HG2.out, by
      have h1 := hs1
      have h2 := (HO2.out.2)
      rcases h2 with ⟨h3, _⟩ | ⟨k, _, _, h3, h4, h5, _⟩
      · cases h3
      · have := (Array.getElem?_eq_some_iff.1 h5).1; omega⟩⟩
    case round =>
      obtain ⟨i, l, rfl, hl, hi, hown, HW⟩ := hrel
      obtain ⟨hcr, hgr, hsr⟩ := HW.out
      by_cases hp : (i : Int) < 1 + y
      · have HB := Lib.hid (below_any g 47 (by omega) (by omega) _ hcr)
        clear hcr hgr
        go_wp2_with fail
        refine HB.out.mono ?_
        rintro e w3 ⟨k, rfl, ⟨hk0, hk1⟩, hc3, hg3⟩
        have hk2 : k ≤ 46 := by simpa using hk1
        obtain ⟨m, rfl⟩ : ∃ m : Nat, k = m := ⟨k.toNat, by omega⟩
        have hO3 := hown.kept hg3 (own_ne hown (by omega))
        have HL : Hid (∀ W, Calls Try.prog 38 #[.int .i64 (1 + (m : Int))] W fun e w' => e = .returned (.int .u8 ((byteAt ((1 + m : Nat) : Int)).toNat : Int)) ∧ W = w') := Lib.hid fun W => by
          rw [← byteAt_int (k := 1 + m) (by omega)]
          have e : ((1 + m : Nat) : Int) = 1 + (m : Int) := by omega
          rw [e]
          exact spec_letterat _ W
        obtain ⟨c, hcc⟩ : ∃ c, byteAt ((1 + m : Nat) : Int) = c := ⟨_, rfl⟩
        rw [hcc] at HL
        have hs3 := hg3.size
        have HC3 := Lib.hid hc3
        have HG3 := Lib.hid (only_trans HW.out.2.1 hg3)
        clear hcc hk1 hc3 hg3 hown HB HW
        go_wp2_with fail
        refine (HL.out _).mono ?_
        rintro e w' ⟨rfl, rfl⟩
        go_wp2_with (at_builtin; refine wpList_append_own _ rfl _ _ 22 rfl w1.heap.size 5 i0 (.int .u8 0) 1 1 Try.underlying22 hinf hz0 hz1 hz2 rfl (by decide) _ _ _ rfl (hO3.alloc _) ⟨w3.heap.size, 0, none⟩ 1 1 [.int .u8 (c.toNat : Int)] rfl rfl (cell_one_new _ _ _) (by simp [Value.oneCell']) (by unfold maxLen; omega) (by omega) (by simp; omega) ?_; intro v' w4 hown' hgrow _)
        have hgs := hgrow.size
        have hal : w3.heap.size ≤ (w3.alloc (.cells #[.int .u8 (c.toNat : Int)] 5)).heap.size := by simp
        go_roundw
        case rel => exact ⟨i + 1, l ++ [c], by go_num, by simp [hl], by omega, by simpa [u8v] using hown', Lib.hid ⟨(HC3.out.grown (World.grownBy_alloc w3 _ none) (fun _ h => by cases h)).grown hgrow (fun k hk => by have := own_lt hO3 k hk; omega), only_app (only_alloc HG3.out _) hgrow (fun k hk => by have := own_lt hO3 k hk; omega), by omega⟩⟩
        case measure => simp [intOf]; omega
      · have hstr := own_string (P := Try.prog) (src := 22) (dst := 9) Try.underlying22 Try.underlying5 Try.underlying9 hown
        clear hown hcr hgr
        go_wp2_with fail
        go_ret
        exact ⟨_, rfl, by show l.length ≤ 9; omega, HW.out.1, HW.out.2.1⟩
end Go.Proofs.Ytllhcdkbgknjdaa

namespace Go.Proofs.Ytllhcdkbgknjdaa
open Go.ChangeShapes Go.WideShapes Go.ChangeAt Go.RowKit

theorem lt_of_cell_any {w : World} {a : Addr} {v : Value} (h : w.cell? a = some v) : a.block < w.heap.size := by
  rcases Nat.lt_or_ge a.block w.heap.size with hl | hl
  · exact hl
  · have e : w.heap[a.block]? = none := Array.getElem?_eq_none hl
    simp [World.cell?, e] at h
theorem code_of {H : Type} {enc : TypeId × Value → H} {P : Program} {W : World} {t e : TypeId} {A : Option Addr} {len cap : Nat} {d : DataW H} {p : List MemPlace}
    (ht : P.underlying t = some (.slice e)) (he : P.underlying e = some (.int .u8)) (hc : P.cellsOf e = 1) (h : DataW.Trod enc P W 0 (fun _ => true) true t (.slice A len cap) d p) : CodeOk W W.heap.size A len := by
  obtain ⟨fuel, hf⟩ := h
  rcases open_ints ht he hc hf with ⟨hcs, -⟩ | ⟨a, len', cap', zs, hcs, -, hl, hm, hz, -, hcell, hwz⟩
  · have hcs' : (Value.slice A len cap) = .slice none 0 0 := by simpa [Value.cells] using hcs
    injection hcs' with h1 h2 h3
    subst h1 h2 h3
    exact ⟨by omega, fun j hj => by omega⟩
  · have hcs' : (Value.slice A len cap) = .slice (some a) len' cap' := by simpa [Value.cells] using hcs
    injection hcs' with h1 h2 h3
    subst h1 h2 h3
    unfold maxLen at hm
    simp at hz
    refine ⟨by omega, fun j hj => ?_⟩
    have h1 := hcell j (by omega)
    have h2 := lt_of_cell_any h1
    rw [addr_add_block] at h2
    have hmem : zs.getD j 0 ∈ zs := by
      have e : zs.getD j 0 = zs[j]'(by omega) := by simp [List.getD, List.getElem?_eq_getElem (show j < zs.length by omega)]
      rw [e]
      exact List.getElem_mem _
    have hw := hwz _ hmem
    have hb : 0 ≤ zs.getD j 0 ∧ zs.getD j 0 ≤ 255 := by
      simpa [Lit.wf, IntKind.min, IntKind.max, IntKind.signed, IntKind.bits] using hw
    exact ⟨a, zs.getD j 0, rfl, h2, hb.1, hb.2, h1⟩
end Go.Proofs.Ytllhcdkbgknjdaa

namespace Go.Proofs.Ytllhcdkbgknjdaa
open Go.RowKit Go

theorem big_any (A : Option Addr) (len cap : Nat) (w : World) : Calls Try.prog 5 #[.slice A len cap] w fun e w' => e = .returned (.bool (decide (1048576 < (len : Int)))) ∧ w = w' := by
  go_enter Try.func5, Try.ntmps5
  go_wp2
  go_ret
  exact ⟨rfl, rfl⟩
/-- A byte of the code, or a number that follows from its length. -/
def AByte (w : World) (e : Ending) (w' : World) : Prop := ∃ x : Nat, e = .returned (.int .i64 x) ∧ x ≤ 255 ∧ w = w'
end Go.Proofs.Ytllhcdkbgknjdaa
