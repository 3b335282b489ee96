/-
  The model's cursor and its draws: numbers, texts, names; the bytes that come in.
  CellsOf of the program at a word: how many cells there are, whatever the tables hold.
  CellsOf of the program at a number: how many cells there are, whatever the tables hold.
  CellsOf of the program at a variable: how many cells there are, whatever the tables hold.
  CellsOf of the program at a raw cell: how many cells there are, whatever the tables hold.
  CellsOf and ItemOk of the program: how many cells an item has, whatever the tables hold.
  Which kinds go over into one another; a text's clone.
  Recolor of the program, whatever the tables hold.
  The model's cells of a word and of a number: how many there are.
  The model's cells of a number, and the tags of words.
  The model's CellsOf at a raw cell: how many cells there are.
  The model's CellsOf at a number: how many cells there are.
-/
import Derived.Test.YtllhcdkbgknjdaaDoorOP1
import Derived.Test.YtllhcdkbgknjdaaDoorOP2
import Derived.Laws.BitsAllLaws
import Derived.Laws.BitsLemmas
import Derived.BigCall
import Derived.BigGuard
import Derived.Laws.BytesArg
import Derived.Test.YtllhcdkbgknjdaaDoorOP4
import Derived.OwnWalk
import Derived.Test.YtllhcdkbgknjdaaDoorOP3
import Derived.Test.YtllhcdkbgknjdaaDoorShelf
import Derived.Handy
namespace Go.Proofs.YtllhcdkbgknjdaaDoor
open Go.RowKit

/-- The bytes of a slice that came in. -/
def CodeOk (w : World) (B : Nat) (A : Option Addr) (len : Nat) : Prop :=
  len ≤ 9223372036854775807 ∧ ∀ j, j < len → ∃ ad z, A = some ad ∧ ad.block < B ∧ 0 ≤ z ∧ z ≤ 255 ∧ w.cell? (ad.add j) = some (.int .u8 z)
theorem addr_add_block (a : Addr) (n : Nat) : (a.add n).block = a.block := by unfold Addr.add; split <;> rfl
theorem CodeOk.keep {w w' : World} {B len : Nat} {A : Option Addr} (h : CodeOk w B A len) (hk : ∀ p : Addr, p.block < B → w'.cell? p = w.cell? p) : CodeOk w' B A len :=
  ⟨h.1, fun j hj => by obtain ⟨ad, z, e, hb, h0, h1, hc⟩ := h.2 j hj; exact ⟨ad, z, e, hb, h0, h1, (hk _ (by rw [addr_add_block]; exact hb)).trans hc⟩⟩
theorem CodeOk.more {w : World} {B B' len : Nat} {A : Option Addr} (h : CodeOk w B A len) (hB : B ≤ B') : CodeOk w B' A len :=
  ⟨h.1, fun j hj => by obtain ⟨ad, z, e, hb, r⟩ := h.2 j hj; exact ⟨ad, z, e, by omega, r⟩⟩
theorem CodeOk.below {w w' : World} {B len : Nat} {A : Option Addr} (h : CodeOk w B A len) (hb : Below B w w') : CodeOk w' B A len := h.keep fun _ hp => hb.cell hp

/-- Block g is a cursor. -/
def CurAt (w : World) (g : Nat) : Prop :=
  ∃ (A : Option Addr) (len cap : Nat) (i : Nat) (h : Int), Blk w g 61 #[.slice A len cap, .int .i64 i, .int .i64 h] ∧ i ≤ len ∧ CodeOk w g A len
theorem CurAt.grown {w w' : World} {g : Nat} {row : Option Nat} (h : CurAt w g) (hg : w.grownBy w' row) (hr : ∀ k, row = some k → g < k) : CurAt w' g := by
  obtain ⟨A, len, cap, i, x, hb, hi, hc⟩ := h
  have hlt := hb.lt
  refine ⟨A, len, cap, i, x, hb.grown hg (fun e => by have := hr g e.symm; omega), hi, hc.keep fun p hp => World.cell?_of_block (hg.block p.block (by omega) (fun e => by have := hr _ e.symm; omega))⟩
theorem CurAt.below {w w' : World} {g : Nat} (h : CurAt w g) (hb : Below w.heap.size w w') : CurAt w' g := by
  obtain ⟨A, len, cap, i, x, hk, hi, hc⟩ := h
  exact ⟨A, len, cap, i, x, hk.below hb hk.lt, hi, hc.keep fun p hp => hb.cell (by have := hk.lt; omega)⟩

theorem and255 (y : Int) : 0 ≤ bits .and .i64 y 255 ∧ bits .and .i64 y 255 ≤ 255 := by
  have h : bits .and .i64 y 255 = IntKind.i64.wrap ((BitVec.ofInt 64 y &&& BitVec.ofInt 64 255).toNat : Int) := rfl
  have hle : (BitVec.ofInt 64 y &&& BitVec.ofInt 64 255).toNat ≤ 255 := by
    rw [BitVec.toNat_and]
    exact Nat.le_trans Nat.and_le_right (by decide)
  rw [h, IntKind.wrap_i64]
  omega

/-- What comes of a step of the cursor: a byte; only block g has changed. -/
def Drew (g : Nat) (w : World) (lo hi : Int) (e : Ending) (w' : World) : Prop := ∃ x : Int, e = .returned (.int .i64 x) ∧ (lo ≤ x ∧ x ≤ hi) ∧ CurAt w' g ∧ w.grownBy w' (some g)

set_option maxRecDepth 100000 in
set_option maxHeartbeats 2000000 in
theorem byte_any (g : Nat) (w : World) (hc : CurAt w g) : Calls Tryd.prog 62 #[.pointer (some ⟨g, 0, none⟩)] w (Drew g w 0 255) := by
  obtain ⟨A, len, cap, i, h, hb, hi, hcode⟩ := hc
  have c0 := hb.cell 0
  have c1 := hb.cell 1
  have c2 := hb.cell 2
  have f1 := hb.frozen 1
  have f2 := hb.frozen 2
  simp at c0 c1 c2
  have HB := Lib.hid hb
  have HC := Lib.hid hcode
  clear hb hcode
  go_enter Tryd.func62, Tryd.ntmps62
  go_wp2
  obtain ⟨h2, hh⟩ : ∃ h2, wrap64 (wrap64 (h * 6364136223846793005) + 1442695040888963407) = h2 := ⟨_, rfl⟩
  rw [hh]
  have hb1 := HB.out.put 2 (.int .i64 h2)
  have hg1 : w.grownBy (w.setCell ⟨g, 2, none⟩ (.int .i64 h2)) (some g) := only_setCell (World.grownBy.refl w _) (.inl rfl) _
  have hcd1 : CodeOk (w.setCell ⟨g, 2, none⟩ (.int .i64 h2)) g A len := HC.out.keep fun p hp => World.cell?_setCell_other w ⟨g, 2, none⟩ p _ (fun e => by subst e; simp at hp)
  obtain ⟨W1, hW⟩ : ∃ W1, w.setCell ⟨g, 2, none⟩ (.int .i64 h2) = W1 := ⟨_, rfl⟩
  rw [hW] at hb1 hg1 hcd1 ⊢
  clear hW hh c0 c1 c2 f1 f2 HB HC
  simp at hb1
  have c0 := hb1.cell 0
  have c1 := hb1.cell 1
  have c2 := hb1.cell 2
  have f1 := hb1.frozen 1
  simp at c0 c1 c2
  have HB := Lib.hid hb1
  have HG := Lib.hid hg1
  have HC := Lib.hid hcd1
  clear hb1 hg1 hcd1
  go_quiet (fail)
  go_wp2
  have hx := and255 (bits BinOp.xor IntKind.i64 (h2 / 8589934592) (h2 / 35184372088832))
  obtain ⟨x0, hx0⟩ : ∃ x0, bits BinOp.and IntKind.i64 (bits BinOp.xor IntKind.i64 (h2 / 8589934592) (h2 / 35184372088832)) 255 = x0 := ⟨_, rfl⟩
  rw [hx0] at hx ⊢
  clear hx0
  obtain ⟨hx0, hx1⟩ := hx
  by_cases hlt : i < len
  · have hlt' : (i : Int) < (len : Int) := by omega
    have hlen := HC.out.1
    obtain ⟨ad, z, hA, hadb, hz0, hz1, hz⟩ := HC.out.2 i hlt
    subst hA
    go_quiet (fail)
    go_wp2
    go_quiet (fail)
    go_wp2
    have hy := and255 (x0 + z)
    go_ret
    have hb2 : ∀ m, Blk ((W1.drewN m).setCell ⟨g, 1, none⟩ (.int .i64 ((i : Int) + 1))) g 61 #[.slice (some ad) len cap, .int .i64 ((i : Int) + 1), .int .i64 h2] := fun m => by
      have h := Blk.put (w := W1.drewN m) HB.out 1 (.int .i64 ((i : Int) + 1))
      simpa using h
    exact ⟨_, rfl, hy, ⟨some ad, len, cap, i + 1, h2, hb2 _, by omega, HC.out.keep fun p hp => World.cell?_setCell_other (W1.drewN _) ⟨g, 1, none⟩ p _ (fun e => by subst e; simp at hp)⟩, only_setCell (only_drewN HG.out _) (.inl rfl) _⟩
  · have hlt' : (len : Int) ≤ (i : Int) := by omega
    go_quiet (fail)
    go_wp2
    go_ret
    exact ⟨x0, rfl, ⟨hx0, hx1⟩, ⟨A, len, cap, i, h2, HB.out, hi, HC.out⟩, only_drewN (only_drewN HG.out _) _⟩

/-- A number of 0 .. n-1 is drawn; 0 where n is not above 0. -/
theorem below_any (g : Nat) (n : Int) (h0 : -9223372036854775808 ≤ n) (h1 : n ≤ 9223372036854775807) (w : World) (hc : CurAt w g) : Calls Tryd.prog 45 #[.pointer (some ⟨g, 0, none⟩), .int .i64 n] w (Drew g w 0 (if n ≤ 0 then 0 else n - 1)) := by
  have HC := Lib.hid hc
  clear hc
  by_cases hn : n ≤ 0
  · rw [if_pos hn]
    have HN := Lib.hid hn
    go_enter Tryd.func45, Tryd.ntmps45
    go_wp2
    go_ret
    exact ⟨0, rfl, ⟨by omega, by omega⟩, HC.out, World.grownBy.refl _ _⟩
  · rw [if_neg hn]
    by_cases h256 : n ≤ 256
    · have hn' : 0 < n := by omega
      clear hn
      go_enter Tryd.func45, Tryd.ntmps45
      go_wp2_with (go_at_call 62; refine (byte_any g _ HC.out).mono ?_; rintro e w' ⟨x, rfl, ⟨hx0, hx1⟩, hc2, hg2⟩)
      go_ret
      exact ⟨_, rfl, ⟨Int.emod_nonneg _ (by omega), by have := Int.emod_lt_of_pos x hn'; omega⟩, hc2, hg2⟩
    · have hn' : 256 < n := by omega
      clear hn h256
      go_enter Tryd.func45, Tryd.ntmps45
      go_wp2_with fail
      refine (byte_any g _ HC.out).mono ?_
      rintro e w1 ⟨x1, rfl, ⟨hx10, hx11⟩, hc1, hg1⟩
      go_wp2_with fail
      refine (byte_any g _ hc1).mono ?_
      rintro e w2 ⟨x2, rfl, ⟨hx20, hx21⟩, hc2, hg2⟩
      go_wp2_with fail
      refine (byte_any g _ hc2).mono ?_
      rintro e w3 ⟨x3, rfl, ⟨hx30, hx31⟩, hc3, hg3⟩
      go_wp2_with fail
      refine (byte_any g _ hc3).mono ?_
      rintro e w4 ⟨x4, rfl, ⟨hx40, hx41⟩, hc4, hg4⟩
      go_wp2_with fail
      go_ret
      exact ⟨_, rfl, ⟨Int.emod_nonneg _ (by omega), by have := Int.emod_lt_of_pos (x1 * 16777216 + x2 * 65536 + x3 * 256 + x4) (show 0 < n by omega); omega⟩, hc4, only_trans (only_trans (only_trans hg1 hg2) hg3) hg4⟩
end Go.Proofs.YtllhcdkbgknjdaaDoor

namespace Go.Proofs.YtllhcdkbgknjdaaDoor
open Go.RowKit

/-- What comes of making a cursor: a pointer to a block of the call's own. -/
def Made (w : World) (e : Ending) (w' : World) : Prop := ∃ g : Nat, e = .returned (.pointer (some ⟨g, 0, none⟩)) ∧ w.heap.size ≤ g ∧ CurAt w' g ∧ Below w.heap.size w w'

set_option maxHeartbeats 1000000 in
theorem new_any (A : Option Addr) (len cap : Nat) (w : World) (hcode : CodeOk w w.heap.size A len) : Calls Tryd.prog 27 #[.slice A len cap] w (Made w) := by
  have hlen := hcode.1
  have HC := Lib.hid hcode
  clear hcode
  go_enter Tryd.func27, Tryd.ntmps27
  go_wp2
  go_loop [3, 4] (fun h i => ∃ (k : Nat) (x : Int), k ≤ len ∧ i = .int .i64 k ∧ h = .int .i64 x) (fun _ i => len - (intOf i).toNat)
  case atStart => exact ⟨0, _, by omega, rfl, rfl⟩
  case round =>
    obtain ⟨k, x, hk, rfl, rfl⟩ := hrel
    by_cases hks : k < len
    · obtain ⟨ad, z, hA, hadb, hz0, hz1, hz⟩ := HC.out.2 k hks
      subst hA
      by_cases h4 : k < 4000
      · have h4' : decide ((k : Int) < 4000) = true := by simp; omega
        go_wp2
        go_round
        case rel => exact ⟨k + 1, _, by omega, by go_num, rfl⟩
        case measure => simp [intOf]; omega
      · have h4' : decide ((k : Int) < 4000) = false := by simp; omega
        go_wp2
        go_ret
        exact ⟨w.heap.size, rfl, Nat.le_refl _, ⟨some ad, len, cap, 0, _, Blk.new _ _ _, by omega, HC.out.below ((Below.refl _ _).alloc (Nat.le_refl _) _)⟩, (Below.refl _ _).alloc (Nat.le_refl _) _⟩
    · have hks' : decide ((k : Int) < (len : Int)) = false := by simp; omega
      go_wp2
      go_ret
      exact ⟨w.heap.size, rfl, Nat.le_refl _, ⟨A, len, cap, 0, _, Blk.new _ _ _, by omega, HC.out.below ((Below.refl _ _).alloc (Nat.le_refl _) _)⟩, (Below.refl _ _).alloc (Nat.le_refl _) _⟩
end Go.Proofs.YtllhcdkbgknjdaaDoor

namespace Go.Proofs.YtllhcdkbgknjdaaDoor
open Go.RowKit

/-- A block of numbers. -/
def IntsAt (w : World) (b : Nat) (zs : List Int) : Prop := ∀ j (h : j < zs.length), w.cell? ⟨b, j, none⟩ = some (.int .i64 zs[j])
theorem ints_new (w : World) (t : TypeId) (zs : List Int) : IntsAt (w.alloc (.cells (zs.map (Value.int .i64)).toArray t)) w.heap.size zs := fun j h => by
  rw [(Blk.new w t _).cell]
  simp [h]
def Picked (g : Nat) (w : World) (zs : List Int) (e : Ending) (w' : World) : Prop := ∃ x : Int, e = .returned (.int .i64 x) ∧ x ∈ zs ∧ CurAt w' g ∧ w.grownBy w' (some g)
theorem pickint_any (g b : Nat) (zs : List Int) (w : World) (hc : CurAt w g) (hl : IntsAt w b zs) (hb : b ≠ g) (hblt : b < w.heap.size) (hn : 1 ≤ zs.length) (hn2 : zs.length ≤ 1000) :
    Calls Tryd.prog 49 #[.pointer (some ⟨g, 0, none⟩), .slice (some ⟨b, 0, none⟩) zs.length zs.length] w (Picked g w zs) := by
  have HC := Lib.hid (below_any g (zs.length : Int) (by omega) (by omega) w hc)
  have HL := Lib.hid hl
  have HN := Lib.hid hb
  clear hc hl hb
  go_enter Tryd.func49, Tryd.ntmps49
  go_wp2_with fail
  refine HC.out.mono ?_
  rintro e w1 ⟨x, rfl, ⟨hx0, hx1⟩, hc1, hg1⟩
  rw [if_neg (by omega)] at hx1
  obtain ⟨j, rfl⟩ : ∃ j : Nat, x = j := ⟨x.toNat, by omega⟩
  have hj : j < zs.length := by omega
  have hcell : w1.cell? ⟨b, j, none⟩ = some (.int .i64 zs[j]) := (World.cell?_of_block (hg1.block b hblt (fun e => HN.out (by injection e)))).trans (HL.out j hj)
  have HG := Lib.hid hg1
  go_wp2_with fail
  go_ret
  exact ⟨zs[j], rfl, List.getElem_mem _, hc1, HG.out⟩

def DrewWord (g : Nat) (w : World) (e : Ending) (w' : World) : Prop := ∃ x : Nat, e = .returned (.int .u32 x) ∧ x < 4294967296 ∧ CurAt w' g ∧ w.grownBy w' (some g)
theorem u32_nat (x : Int) : ∃ n : Nat, IntKind.u32.wrap x = (n : Int) ∧ n < 4294967296 := ⟨(x % 4294967296).toNat, by rw [IntKind.wrap_u32]; omega, by omega⟩

theorem ret_u32 {a b : Int} (h : a = b) : Ending.returned (.int .u32 a) = .returned (.int .u32 b) := by rw [h]
set_option maxHeartbeats 2000000 in
theorem word_any (g : Nat) (w : World) (hc : CurAt w g) : Calls Tryd.prog 48 #[.pointer (some ⟨g, 0, none⟩)] w (DrewWord g w) := by
  have hglt : g < w.heap.size := by obtain ⟨_, _, _, _, _, hb, _⟩ := hc; exact hb.lt
  have HC := Lib.hid (below_any g 4 (by omega) (by omega) w hc)
  clear hc
  go_enter Tryd.func48, Tryd.ntmps48
  go_wp2_with fail
  refine HC.out.mono ?_
  rintro e w1 ⟨x, rfl, ⟨hx0, hx1⟩, hc1, hg1⟩
  have hglt1 : g < w1.heap.size := by have := hg1.size; omega
  have HG := Lib.hid hg1
  clear hg1
  by_cases h0 : x = 0
  · have h0' : (x == 0) = true := by simpa using h0
    clear h0
    go_wp2_with fail
    refine (pickint_any g w1.heap.size [0, 1, 2, 31, 32, 255, 256, 2147483647, 2147483648, 4294967295, 4294967294] _ (hc1.grown (World.grownBy_alloc w1 _ none) (fun _ h => by cases h)) (ints_new w1 3 [0, 1, 2, 31, 32, 255, 256, 2147483647, 2147483648, 4294967295, 4294967294]) (by omega) (by simp) (by decide) (by decide)).mono ?_
    rintro e w2 ⟨y, rfl, -, hc2, hg2⟩
    obtain ⟨n, hn, hnb⟩ := u32_nat y
    have HG2 := Lib.hid hg2
    have HNB := Lib.hid hnb
    clear hg2 hnb
    go_wp2_with fail
    go_ret
    exact ⟨n, rfl, HNB.out, hc2, only_trans (only_alloc HG.out _) HG2.out⟩
  · have h0' : (x == 0) = false := by simpa using h0
    by_cases h1 : x = 1
    · have h1' : (x == 1) = true := by simpa using h1
      clear h0 h1
      go_wp2_with fail
      refine (below_any g 300 (by omega) (by omega) _ hc1).mono ?_
      rintro e w2 ⟨y, rfl, ⟨hy0, hy1⟩, hc2, hg2⟩
      have hy2 : y ≤ 299 := by simpa using hy1
      obtain ⟨n, rfl⟩ : ∃ n : Nat, y = n := ⟨y.toNat, by omega⟩
      have HG2 := Lib.hid hg2
      clear hg2 hy1
      go_wp2_with fail
      go_ret
      exact ⟨n, rfl, by omega, hc2, only_trans HG.out HG2.out⟩
    · have h1' : (x == 1) = false := by simpa using h1
      clear h0 h1
      go_wp2_with fail
      refine (below_any g 65536 (by omega) (by omega) _ hc1).mono ?_
      rintro e w2 ⟨y, rfl, ⟨hy0, hy1⟩, hc2, hg2⟩
      have hy2 : y ≤ 65535 := by simpa using hy1
      have HG2 := Lib.hid hg2
      clear hg2 hy1
      go_wp2_with fail
      refine (below_any g 65536 (by omega) (by omega) _ hc2).mono ?_
      rintro e w3 ⟨z, rfl, ⟨hz0, hz1⟩, hc3, hg3⟩
      have hz2 : z ≤ 65535 := by simpa using hz1
      have HG3 := Lib.hid hg3
      clear hg3 hz1
      go_wp2_with fail
      go_ret
      exact ⟨(y * 65536 + z).toNat, ret_u32 (by omega), by omega, hc3, only_trans (only_trans HG.out HG2.out) HG3.out⟩
end Go.Proofs.YtllhcdkbgknjdaaDoor

namespace Go.Proofs.YtllhcdkbgknjdaaDoor
open Go.RowKit

/-- A block of texts. -/
def StrsAt (w : World) (b : Nat) (zs : List ByteArray) : Prop := ∀ j (h : j < zs.length), w.cell? ⟨b, j, none⟩ = some (.string zs[j])
theorem strs_new (w : World) (t : TypeId) (zs : List ByteArray) : StrsAt (w.alloc (.cells (zs.map Value.string).toArray t)) w.heap.size zs := fun j h => by
  rw [(Blk.new w t _).cell]
  simp [h]
def PickedS (g : Nat) (w : World) (zs : List ByteArray) (e : Ending) (w' : World) : Prop := ∃ x : ByteArray, e = .returned (.string x) ∧ x ∈ zs ∧ CurAt w' g ∧ w.grownBy w' (some g)
theorem pick_any (g b : Nat) (zs : List ByteArray) (w : World) (hc : CurAt w g) (hl : StrsAt w b zs) (hb : b ≠ g) (hblt : b < w.heap.size) (hn : 1 ≤ zs.length) (hn2 : zs.length ≤ 1000) :
    Calls Tryd.prog 67 #[.pointer (some ⟨g, 0, none⟩), .slice (some ⟨b, 0, none⟩) zs.length zs.length] w (PickedS g w zs) := by
  have HC := Lib.hid (below_any g (zs.length : Int) (by omega) (by omega) w hc)
  have HL := Lib.hid hl
  have HN := Lib.hid hb
  clear hc hl hb
  go_enter Tryd.func67, Tryd.ntmps67
  go_wp2_with fail
  refine HC.out.mono ?_
  rintro e w1 ⟨x, rfl, ⟨hx0, hx1⟩, hc1, hg1⟩
  rw [if_neg (by omega)] at hx1
  obtain ⟨j, rfl⟩ : ∃ j : Nat, x = j := ⟨x.toNat, by omega⟩
  have hj : j < zs.length := by omega
  have hcell : w1.cell? ⟨b, j, none⟩ = some (.string zs[j]) := (World.cell?_of_block (hg1.block b hblt (fun e => HN.out (by injection e)))).trans (HL.out j hj)
  have HG := Lib.hid hg1
  go_wp2_with fail
  go_ret
  exact ⟨zs[j], rfl, List.getElem_mem _, hc1, HG.out⟩
end Go.Proofs.YtllhcdkbgknjdaaDoor

namespace Go.Proofs.YtllhcdkbgknjdaaDoor
open Go.RowKit Go

end Go.Proofs.YtllhcdkbgknjdaaDoor

namespace Go.Proofs.YtllhcdkbgknjdaaDoor
open Go.RowKit Go

theorem once_any (g : Nat) (n : Nat) (h1 : n ≤ 1000) (w : World) (hc : CurAt w g) : Calls Tryd.prog 50 #[.pointer (some ⟨g, 0, none⟩), .int .i64 (n : Int)] w fun e w' => ∃ b : Bool, e = .returned (.bool b) ∧ CurAt w' g ∧ w.grownBy w' (some g) := by
  have HC := Lib.hid (below_any g (n : Int) (by omega) (by omega) w hc)
  clear hc
  go_enter Tryd.func50, Tryd.ntmps50
  go_wp2_with fail
  refine HC.out.mono ?_
  rintro e w1 ⟨x, rfl, -, hc1, hg1⟩
  have HG := Lib.hid hg1
  have HC1 := Lib.hid hc1
  clear hg1 hc1
  go_wp2_with fail
  go_ret
  exact ⟨_, rfl, HC1.out, HG.out⟩
theorem cur_lt {w : World} {g : Nat} (h : CurAt w g) : g < w.heap.size := by
  obtain ⟨_, _, _, _, _, hb, _⟩ := h
  exact hb.lt
theorem only_app {w wr w1 : World} {g : Nat} {row : Option Nat} (h : w.grownBy wr (some g)) (hg : wr.grownBy w1 row) (hr : ∀ k, row = some k → w.heap.size ≤ k) : w.grownBy w1 (some g) :=
  ⟨hg.os.trans h.os, hg.tape.trans h.tape, hg.output.trans h.output, Nat.le_trans h.size hg.size, fun i hi hne => (hg.block i (Nat.lt_of_lt_of_le hi h.size) (fun e => by have := hr i e.symm; omega)).trans (h.block i hi hne)⟩
theorem own_ne {w : World} {base : Nat} {e : TypeId} {size : Nat} {v : Value} {n : Nat} {xs : List Value} {g : Nat} (h : w.ownsRow base e size v n xs) (hg : g < base) : v.ownBlock = none ∨ v.ownBlock ≠ some g :=
  .inr (fun e => by have := own_lt h g e; omega)
/-- A name is drawn, of at most nine bytes. -/
def NamedS (g : Nat) (w : World) (e : Ending) (w' : World) : Prop := ∃ s : ByteArray, e = .returned (.string s) ∧ s.size ≤ 9 ∧ CurAt w' g ∧ w.grownBy w' (some g)
def drawnNames : List ByteArray := [⟨#[100, 117, 112]⟩, ⟨#[111, 118, 101, 114]⟩, ⟨#[115, 113, 117, 97, 114, 101]⟩, ⟨#[97, 33]⟩, ⟨#[50, 42]⟩, ⟨#[103, 111]⟩, ⟨#[45, 105, 102]⟩, ⟨#[59]⟩, ⟨#[63]⟩, ⟨#[114, 114, 114, 114, 114, 114, 114]⟩, ⟨#[114, 116, 111, 101, 97, 110, 105]⟩, ⟨#[119, 119, 119, 119, 119, 119]⟩, ⟨#[113, 113, 113, 113, 113]⟩, ⟨#[120]⟩]
theorem drawnNames_size : ∀ x ∈ drawnNames, x.size ≤ 9 := by decide

set_option maxRecDepth 100000 in
set_option maxHeartbeats 2000000 in
theorem name_any (g : Nat) (w : World) (hc : CurAt w g) : Calls Tryd.prog 68 #[.pointer (some ⟨g, 0, none⟩)] w (NamedS g w) := by
  obtain ⟨i0, hinf, hz0, hz1, hz2⟩ := info_parts infoU8
  have HO := Lib.hid (once_any g 2 (by decide) w hc)
  have hgl := cur_lt hc
  clear hc
  go_enter Tryd.func68, Tryd.ntmps68
  go_wp2_with fail
  refine HO.out.mono ?_
  rintro e w1 ⟨b, rfl, hc1, hg1⟩
  have HC1 := Lib.hid hc1
  have HG1 := Lib.hid hg1
  have hs1 := hg1.size
  clear hc1 hg1 HO
  cases b with
  | true =>
    have PK := pick_any g w1.heap.size drawnNames _ (HC1.out.grown (World.grownBy_alloc w1 _ none) (fun _ h => by cases h)) (strs_new w1 9 drawnNames) (by omega) (by simp) (by decide) (by decide)
    have HPK := Lib.hid PK
    clear PK
    go_wp2_with fail
    refine HPK.out.mono ?_
    rintro e w2 ⟨x, rfl, hx, hc2, hg2⟩
    have hx9 := drawnNames_size x hx
    have HC2 := Lib.hid hc2
    have HG2 := Lib.hid (only_trans (only_alloc HG1.out _) hg2)
    clear hx hc2 hg2
    go_wp2_with fail
    go_ret
    exact ⟨x, rfl, hx9, HC2.out, HG2.out⟩
  | false =>
    have HB := Lib.hid (below_any g 9 (by omega) (by omega) _ (HC1.out.grown (World.grownBy_alloc w1 (.cells #[] 5) none) (fun _ h => by cases h)))
    have HE := Lib.hid (own_empty w1 5)
    go_wp2_with fail
    refine HB.out.mono ?_
    rintro e w2 ⟨y, rfl, ⟨hy0, hy1⟩, hc2, hg2⟩
    have hy2 : y ≤ 8 := by simpa using hy1
    have hO2 := HE.out.kept hg2 (own_ne HE.out (by omega))
    have hG2 := only_trans (only_alloc HG1.out (.cells #[] 5)) hg2
    have HO2 := Lib.hid hO2
    have HG2 := Lib.hid hG2
    have HC2 := Lib.hid hc2
    clear hy1 hc2 hg2 hO2 hG2 HB HE
    go_wp2_with fail
    go_loopw [3, 5] (fun vo vi wr => ∃ (i : Nat) (l : List UInt8), vi = .int .i64 i ∧ l.length = i ∧ (i : Int) ≤ 1 + y ∧ wr.ownsRow w1.heap.size 5 1 vo l.length (l.map u8v) ∧ Hid (CurAt wr g ∧ w.grownBy wr (some g) ∧ w1.heap.size ≤ wr.heap.size)) (fun _ vi _ => (1 + y).toNat - (intOf vi).toNat)
    case atStart => exact ⟨0, [], rfl, rfl, by omega, HO2.out, Lib.hid ⟨HC2.out, HG2.out, by
      have h1 := hs1
      have h2 := (HO2.out.2)
      rcases h2 with ⟨h3, _⟩ | ⟨k, _, _, h3, h4, h5, _⟩
      · cases h3
      · have := (Array.getElem?_eq_some_iff.1 h5).1; omega⟩⟩
    case round =>
      obtain ⟨i, l, rfl, hl, hi, hown, HW⟩ := hrel
      obtain ⟨hcr, hgr, hsr⟩ := HW.out
      by_cases hp : (i : Int) < 1 + y
      · have HB := Lib.hid (below_any g 47 (by omega) (by omega) _ hcr)
        clear hcr hgr
        go_wp2_with fail
        refine HB.out.mono ?_
        rintro e w3 ⟨k, rfl, ⟨hk0, hk1⟩, hc3, hg3⟩
        have hk2 : k ≤ 46 := by simpa using hk1
        obtain ⟨m, rfl⟩ : ∃ m : Nat, k = m := ⟨k.toNat, by omega⟩
        have hO3 := hown.kept hg3 (own_ne hown (by omega))
        have HL : Hid (∀ W, Calls Tryd.prog 79 #[.int .i64 (1 + (m : Int))] W fun e w' => e = .returned (.int .u8 ((byteAt ((1 + m : Nat) : Int)).toNat : Int)) ∧ W = w') := Lib.hid fun W => by
          rw [← byteAt_int (k := 1 + m) (by omega)]
          have e : ((1 + m : Nat) : Int) = 1 + (m : Int) := by omega
          rw [e]
          exact spec_letterat _ W
        obtain ⟨c, hcc⟩ : ∃ c, byteAt ((1 + m : Nat) : Int) = c := ⟨_, rfl⟩
        rw [hcc] at HL
        have hs3 := hg3.size
        have HC3 := Lib.hid hc3
        have HG3 := Lib.hid (only_trans HW.out.2.1 hg3)
        clear hcc hk1 hc3 hg3 hown HB HW
        go_wp2_with fail
        refine (HL.out _).mono ?_
        rintro e w' ⟨rfl, rfl⟩
        go_wp2_with (at_builtin; refine wpList_append_own _ rfl _ _ 22 rfl w1.heap.size 5 i0 (.int .u8 0) 1 1 Tryd.underlying22 hinf hz0 hz1 hz2 rfl (by decide) _ _ _ rfl (hO3.alloc _) ⟨w3.heap.size, 0, none⟩ 1 1 [.int .u8 (c.toNat : Int)] rfl rfl (cell_one_new _ _ _) (by simp [Value.oneCell']) (by unfold maxLen; omega) (by omega) (by simp; omega) ?_; intro v' w4 hown' hgrow _)
        have hgs := hgrow.size
        have hal : w3.heap.size ≤ (w3.alloc (.cells #[.int .u8 (c.toNat : Int)] 5)).heap.size := by simp
        go_roundw
        case rel => exact ⟨i + 1, l ++ [c], by go_num, by simp [hl], by omega, by simpa [u8v] using hown', Lib.hid ⟨(HC3.out.grown (World.grownBy_alloc w3 _ none) (fun _ h => by cases h)).grown hgrow (fun k hk => by have := own_lt hO3 k hk; omega), only_app (only_alloc HG3.out _) hgrow (fun k hk => by have := own_lt hO3 k hk; omega), by omega⟩⟩
        case measure => simp [intOf]; omega
      · have hstr := own_string (P := Tryd.prog) (src := 22) (dst := 9) Tryd.underlying22 Tryd.underlying5 Tryd.underlying9 hown
        clear hown hcr hgr
        go_wp2_with fail
        go_ret
        exact ⟨_, rfl, by show l.length ≤ 9; omega, HW.out.1, HW.out.2.1⟩
end Go.Proofs.YtllhcdkbgknjdaaDoor

namespace Go.Proofs.YtllhcdkbgknjdaaDoor
open Go.ChangeShapes Go.WideShapes Go.ChangeAt Go.RowKit

theorem lt_of_cell_any {w : World} {a : Addr} {v : Value} (h : w.cell? a = some v) : a.block < w.heap.size := by
  rcases Nat.lt_or_ge a.block w.heap.size with hl | hl
  · exact hl
  · have e : w.heap[a.block]? = none := Array.getElem?_eq_none hl
    simp [World.cell?, e] at h
theorem code_of {H : Type} {enc : TypeId × Value → H} {P : Program} {W : World} {t e : TypeId} {A : Option Addr} {len cap : Nat} {d : DataW H} {p : List MemPlace}
    (ht : P.underlying t = some (.slice e)) (he : P.underlying e = some (.int .u8)) (hc : P.cellsOf e = 1) (h : DataW.Trod enc P W 0 (fun _ => true) true t (.slice A len cap) d p) : CodeOk W W.heap.size A len := by
  obtain ⟨fuel, hf⟩ := h
  rcases open_ints ht he hc hf with ⟨hcs, -⟩ | ⟨a, len', cap', zs, hcs, -, hl, hm, hz, -, hcell, hwz⟩
  · have hcs' : (Value.slice A len cap) = .slice none 0 0 := by simpa [Value.cells] using hcs
    injection hcs' with h1 h2 h3
    subst h1 h2 h3
    exact ⟨by omega, fun j hj => by omega⟩
  · have hcs' : (Value.slice A len cap) = .slice (some a) len' cap' := by simpa [Value.cells] using hcs
    injection hcs' with h1 h2 h3
    subst h1 h2 h3
    unfold maxLen at hm
    simp at hz
    refine ⟨by omega, fun j hj => ?_⟩
    have h1 := hcell j (by omega)
    have h2 := lt_of_cell_any h1
    rw [addr_add_block] at h2
    have hmem : zs.getD j 0 ∈ zs := by
      have e : zs.getD j 0 = zs[j]'(by omega) := by simp [List.getD, List.getElem?_eq_getElem (show j < zs.length by omega)]
      rw [e]
      exact List.getElem_mem _
    have hw := hwz _ hmem
    have hb : 0 ≤ zs.getD j 0 ∧ zs.getD j 0 ≤ 255 := by
      simpa [Lit.wf, IntKind.min, IntKind.max, IntKind.signed, IntKind.bits] using hw
    exact ⟨a, zs.getD j 0, rfl, h2, hb.1, hb.2, h1⟩
end Go.Proofs.YtllhcdkbgknjdaaDoor

namespace Go.Proofs.YtllhcdkbgknjdaaDoor
open Go.RowKit Go

theorem big_any (A : Option Addr) (len cap : Nat) (w : World) : Calls Tryd.prog 7 #[.slice A len cap] w fun e w' => e = .returned (.bool (decide (1048576 < (len : Int)))) ∧ w = w' := by
  go_enter Tryd.func7, Tryd.ntmps7
  go_wp2
  go_ret
  exact ⟨rfl, rfl⟩
/-- A byte of the code, or a number that follows from its length. -/
def AByte (w : World) (e : Ending) (w' : World) : Prop := ∃ x : Nat, e = .returned (.int .i64 x) ∧ x ≤ 255 ∧ w = w'
end Go.Proofs.YtllhcdkbgknjdaaDoor

namespace Go.Proofs.YtllhcdkbgknjdaaDoor
open Go.RowKit Go

set_option maxHeartbeats 2000000 in
theorem cellsof_word_yes (k : Int) (nm : ByteArray) (h : wordK k = true) (hs : nm.size ≤ 4611686018427387904) (w : World) (hcs : TabsAny w) :
    Calls Tryd.prog 55 #[itA k nm 0 false 0] w (NewLen w (packs nm.data.toList).length) := by
  have HS := Lib.hid (fun W => shape_word ⟨k, nm, 0, false, 0⟩ h W)
  have HC := Lib.hid (fun W (hb : Below w.heap.size w W) => word_cells k nm (by have := of_decide_eq_true h; omega) (by have := of_decide_eq_true h; omega) hs W (hcs.below hb))
  clear h hcs
  go_enter Tryd.func55, Tryd.ntmps55
  go_wp2_with fail
  refine (HS.out _).mono ?_
  rintro e w1 ⟨rfl, hb⟩
  have hb' : Below (w.heap.size + 1) (w.alloc (.cells #[.int .i64 k, .string nm, .int .i32 0, .bool false, .int .u32 0] 57)) w1 := hb.mono (by simp)
  have HBX := Lib.hid hb'
  have HB := Lib.hid (((Below.refl w.heap.size w).alloc (Nat.le_refl _) _).trans (hb.mono (by simp)))
  clear hb hb' HS
  go_wp2_with fail
  go_region_held3 (fun w' => w'.cell? ⟨w.heap.size, 0, none⟩ = some (.int .i64 k) ∧ w'.cell? ⟨w.heap.size, 1, none⟩ = some (.string nm) ∧ w'.cell? ⟨w.heap.size, 2, none⟩ = some (.int .i32 0) ∧ w'.cell? ⟨w.heap.size, 3, none⟩ = some (.bool false) ∧ w'.cell? ⟨w.heap.size, 4, none⟩ = some (.int .u32 0)) (first | exact it_box HBX.out.drew | go_keep | exact it_keep HBX.out hb2) (first | (go_at_call 125; refine (word_item k nm _).mono ?_; rintro e w2 ⟨rfl, hb2⟩))
  have HB2 := Lib.hid (HB.out.drew.trans (hb2.mono HB.out.size))
  clear hb2
  go_wp2_with fail
  refine (HC.out _ HB2.out).mono ?_
  rintro e w3 ⟨v, zs, rfl, hl, hz, hown, hb3⟩
  have HE := Lib.hid (show NewLen w (packs nm.data.toList).length (.returned v) w3 from ⟨v, zs, rfl, hl, hz, own_base hown HB2.out.size, HB2.out.trans (hb3.mono HB2.out.size)⟩)
  clear hl hz hown hb3
  go_wp2_with fail
  go_ret
  exact HE.out

set_option maxHeartbeats 2000000 in
theorem cellsof_word_no (k : Int) (nm : ByteArray) (n : Int) (x : Bool) (r : Nat) (h : wordK k = true) (hne : (⟨k, nm, 0, false, 0⟩ : It) ≠ ⟨k, nm, n, x, r⟩) (w : World) :
    Calls Tryd.prog 55 #[itA k nm n x (r : Int)] w (NewLen w 0) := by
  have HS := Lib.hid (fun W => shape_word ⟨k, nm, n, x, r⟩ h W)
  have hq : ∀ W : World, (binOp .neq 57 (itA k nm 0 false 0) (itA k nm n x (r : Int))).run Tryd.prog W = .ok (.bool true) W := fun W => by
    have h := item_neq W (⟨k, nm, 0, false, 0⟩) ⟨k, nm, n, x, r⟩
    rw [decide_eq_false hne] at h
    exact h
  clear hne
  clear h
  go_enter Tryd.func55, Tryd.ntmps55
  go_wp2_with fail
  refine (HS.out _).mono ?_
  rintro e w1 ⟨rfl, hb⟩
  have hb' : Below (w.heap.size + 1) (w.alloc (.cells #[.int .i64 k, .string nm, .int .i32 n, .bool x, .int .u32 (r : Int)] 57)) w1 := hb.mono (by simp)
  have HBX := Lib.hid hb'
  have HB := Lib.hid (((Below.refl w.heap.size w).alloc (Nat.le_refl _) _).trans (hb.mono (by simp)))
  clear hb hb' HS
  go_wp2_with fail
  go_region_held3 (fun w' => w'.cell? ⟨w.heap.size, 0, none⟩ = some (.int .i64 k) ∧ w'.cell? ⟨w.heap.size, 1, none⟩ = some (.string nm) ∧ w'.cell? ⟨w.heap.size, 2, none⟩ = some (.int .i32 n) ∧ w'.cell? ⟨w.heap.size, 3, none⟩ = some (.bool x) ∧ w'.cell? ⟨w.heap.size, 4, none⟩ = some (.int .u32 (r : Int))) (first | exact it_box HBX.out.drew | go_keep | exact it_keep HBX.out hb2) (first | (go_at_call 125; refine (word_item k nm _).mono ?_; rintro e w2 ⟨rfl, hb2⟩))
  have HB2 := Lib.hid (HB.out.drew.trans (hb2.mono HB.out.size))
  clear hb2
  go_wp2_with fail
  go_ret
  exact new_none HB2.out

end Go.Proofs.YtllhcdkbgknjdaaDoor

namespace Go.Proofs.YtllhcdkbgknjdaaDoor
open Go.RowKit Go

set_option maxHeartbeats 2000000 in
theorem cellsof_narrow (k n : Int) (x : Bool) (h : numK k = true) (hn1 : -67108864 ≤ n) (hn2 : n ≤ 67108863) (w : World) (hcs : TabsAny w) :
    Calls Tryd.prog 55 #[itA k ⟨#[]⟩ n x 0] w (NewLen w 1) := by
  have HS := Lib.hid (fun W => shape_num ⟨k, ⟨#[]⟩, n, x, 0⟩ h W)
  have HC := Lib.hid (fun W (hb : Below w.heap.size w W) => number_narrow k n x (by have := of_decide_eq_true h; omega) (by have := of_decide_eq_true h; omega) hn1 hn2 W (hcs.below hb))
  clear h hcs
  go_enter Tryd.func55, Tryd.ntmps55
  go_wp2_with fail
  refine (HS.out _).mono ?_
  rintro e w1 ⟨rfl, hb⟩
  have hb' : Below (w.heap.size + 1) (w.alloc (.cells #[.int .i64 k, .string ⟨#[]⟩, .int .i32 n, .bool x, .int .u32 0] 57)) w1 := hb.mono (by simp)
  have HBX := Lib.hid hb'
  have HB := Lib.hid (((Below.refl w.heap.size w).alloc (Nat.le_refl _) _).trans (hb.mono (by simp)))
  clear hb hb' HS
  go_wp2_with fail
  go_region_held3 (fun w' => w'.cell? ⟨w.heap.size, 0, none⟩ = some (.int .i64 k) ∧ w'.cell? ⟨w.heap.size, 1, none⟩ = some (.string ⟨#[]⟩) ∧ w'.cell? ⟨w.heap.size, 2, none⟩ = some (.int .i32 n) ∧ w'.cell? ⟨w.heap.size, 3, none⟩ = some (.bool x) ∧ w'.cell? ⟨w.heap.size, 4, none⟩ = some (.int .u32 0)) (first | exact it_box HBX.out.drew | go_keep | exact it_keep HBX.out hb2) (first | (go_at_call 128; refine (number_item k n x _).mono ?_; rintro e w2 ⟨rfl, hb2⟩))
  have HB2 := Lib.hid (HB.out.drew.trans (hb2.mono HB.out.size))
  clear hb2
  go_wp2_with fail
  refine (HC.out _ HB2.out).mono ?_
  rintro e w3 ⟨v, zs, rfl, hl, hz, hown, hb3⟩
  have HE := Lib.hid (show NewLen w 1 (.returned v) w3 from ⟨v, zs, rfl, hl, hz, own_base hown HB2.out.size, HB2.out.trans (hb3.mono HB2.out.size)⟩)
  clear hl hz hown hb3
  go_wp2_with fail
  go_ret
  exact HE.out

set_option maxHeartbeats 2000000 in
theorem cellsof_wide (k n : Int) (x : Bool) (h : numK k = true) (hn : n < -67108864 ∨ 67108863 < n) (w : World) (hcs : TabsAny w) :
    Calls Tryd.prog 55 #[itA k ⟨#[]⟩ n x 0] w (NewLen w 2) := by
  have HS := Lib.hid (fun W => shape_num ⟨k, ⟨#[]⟩, n, x, 0⟩ h W)
  have HC := Lib.hid (fun W (hb : Below w.heap.size w W) => (fun (_ : TabsAny W) => number_wide k n x hn W) (hcs.below hb))
  clear h hcs
  go_enter Tryd.func55, Tryd.ntmps55
  go_wp2_with fail
  refine (HS.out _).mono ?_
  rintro e w1 ⟨rfl, hb⟩
  have hb' : Below (w.heap.size + 1) (w.alloc (.cells #[.int .i64 k, .string ⟨#[]⟩, .int .i32 n, .bool x, .int .u32 0] 57)) w1 := hb.mono (by simp)
  have HBX := Lib.hid hb'
  have HB := Lib.hid (((Below.refl w.heap.size w).alloc (Nat.le_refl _) _).trans (hb.mono (by simp)))
  clear hb hb' HS
  go_wp2_with fail
  go_region_held3 (fun w' => w'.cell? ⟨w.heap.size, 0, none⟩ = some (.int .i64 k) ∧ w'.cell? ⟨w.heap.size, 1, none⟩ = some (.string ⟨#[]⟩) ∧ w'.cell? ⟨w.heap.size, 2, none⟩ = some (.int .i32 n) ∧ w'.cell? ⟨w.heap.size, 3, none⟩ = some (.bool x) ∧ w'.cell? ⟨w.heap.size, 4, none⟩ = some (.int .u32 0)) (first | exact it_box HBX.out.drew | go_keep | exact it_keep HBX.out hb2) (first | (go_at_call 128; refine (number_item k n x _).mono ?_; rintro e w2 ⟨rfl, hb2⟩))
  have HB2 := Lib.hid (HB.out.drew.trans (hb2.mono HB.out.size))
  clear hb2
  go_wp2_with fail
  refine (HC.out _ HB2.out).mono ?_
  rintro e w3 ⟨v, zs, rfl, hl, hz, hown, hb3⟩
  have HE := Lib.hid (show NewLen w 2 (.returned v) w3 from ⟨v, zs, rfl, hl, hz, own_base hown HB2.out.size, HB2.out.trans (hb3.mono HB2.out.size)⟩)
  clear hl hz hown hb3
  go_wp2_with fail
  go_ret
  exact HE.out

set_option maxHeartbeats 2000000 in
theorem cellsof_num_no (k : Int) (nm : ByteArray) (n : Int) (x : Bool) (r : Nat) (h : numK k = true) (hne : (⟨k, ⟨#[]⟩, n, x, 0⟩ : It) ≠ ⟨k, nm, n, x, r⟩) (w : World) :
    Calls Tryd.prog 55 #[itA k nm n x (r : Int)] w (NewLen w 0) := by
  have HS := Lib.hid (fun W => shape_num ⟨k, nm, n, x, r⟩ h W)
  have hq : ∀ W : World, (binOp .neq 57 (itA k ⟨#[]⟩ n x 0) (itA k nm n x (r : Int))).run Tryd.prog W = .ok (.bool true) W := fun W => by
    have h := item_neq W (⟨k, ⟨#[]⟩, n, x, 0⟩) ⟨k, nm, n, x, r⟩
    rw [decide_eq_false hne] at h
    exact h
  clear hne
  clear h
  go_enter Tryd.func55, Tryd.ntmps55
  go_wp2_with fail
  refine (HS.out _).mono ?_
  rintro e w1 ⟨rfl, hb⟩
  have hb' : Below (w.heap.size + 1) (w.alloc (.cells #[.int .i64 k, .string nm, .int .i32 n, .bool x, .int .u32 (r : Int)] 57)) w1 := hb.mono (by simp)
  have HBX := Lib.hid hb'
  have HB := Lib.hid (((Below.refl w.heap.size w).alloc (Nat.le_refl _) _).trans (hb.mono (by simp)))
  clear hb hb' HS
  go_wp2_with fail
  go_region_held3 (fun w' => w'.cell? ⟨w.heap.size, 0, none⟩ = some (.int .i64 k) ∧ w'.cell? ⟨w.heap.size, 1, none⟩ = some (.string nm) ∧ w'.cell? ⟨w.heap.size, 2, none⟩ = some (.int .i32 n) ∧ w'.cell? ⟨w.heap.size, 3, none⟩ = some (.bool x) ∧ w'.cell? ⟨w.heap.size, 4, none⟩ = some (.int .u32 (r : Int))) (first | exact it_box HBX.out.drew | go_keep | exact it_keep HBX.out hb2) (first | (go_at_call 128; refine (number_item k n x _).mono ?_; rintro e w2 ⟨rfl, hb2⟩))
  have HB2 := Lib.hid (HB.out.drew.trans (hb2.mono HB.out.size))
  clear hb2
  go_wp2_with fail
  go_ret
  exact new_none HB2.out

end Go.Proofs.YtllhcdkbgknjdaaDoor

namespace Go.Proofs.YtllhcdkbgknjdaaDoor
open Go.RowKit Go

set_option maxHeartbeats 2000000 in
theorem cellsof_var_yes (k : Int) (nm : ByteArray) (n : Int) (h : k = 9) (hs : nm.size ≤ 4611686018427387904) (m : Nat) (hm : (if (packs nm.data.toList).length = 1 then 2 else 0) = m) (w : World) (hcs : TabsAny w) :
    Calls Tryd.prog 55 #[itA k nm n false 0] w (NewLen w m) := by
  have HS := Lib.hid (fun W => shape_var ⟨k, nm, n, false, 0⟩ h W)
  have HC := Lib.hid (fun W (hb : Below w.heap.size w W) => hm ▸ variable_cells k n nm (by omega) (by omega) hs W (hcs.below hb))
  clear h hcs hm
  go_enter Tryd.func55, Tryd.ntmps55
  go_wp2_with fail
  refine (HS.out _).mono ?_
  rintro e w1 ⟨rfl, hb⟩
  have hb' : Below (w.heap.size + 1) (w.alloc (.cells #[.int .i64 k, .string nm, .int .i32 n, .bool false, .int .u32 0] 57)) w1 := hb.mono (by simp)
  have HBX := Lib.hid hb'
  have HB := Lib.hid (((Below.refl w.heap.size w).alloc (Nat.le_refl _) _).trans (hb.mono (by simp)))
  clear hb hb' HS
  go_wp2_with fail
  go_region_held3 (fun w' => w'.cell? ⟨w.heap.size, 0, none⟩ = some (.int .i64 k) ∧ w'.cell? ⟨w.heap.size, 1, none⟩ = some (.string nm) ∧ w'.cell? ⟨w.heap.size, 2, none⟩ = some (.int .i32 n) ∧ w'.cell? ⟨w.heap.size, 3, none⟩ = some (.bool false) ∧ w'.cell? ⟨w.heap.size, 4, none⟩ = some (.int .u32 0)) (first | exact it_box HBX.out.drew | go_keep | exact it_keep HBX.out hb2) (first | (go_at_call 131; refine (variable_item k n nm _).mono ?_; rintro e w2 ⟨rfl, hb2⟩))
  have HB2 := Lib.hid (HB.out.drew.trans (hb2.mono HB.out.size))
  clear hb2
  go_wp2_with fail
  refine (HC.out _ HB2.out).mono ?_
  rintro e w3 ⟨v, zs, rfl, hl, hz, hown, hb3⟩
  have HE := Lib.hid (show NewLen w m (.returned v) w3 from ⟨v, zs, rfl, hl, hz, own_base hown HB2.out.size, HB2.out.trans (hb3.mono HB2.out.size)⟩)
  clear hl hz hown hb3
  go_wp2_with fail
  go_ret
  exact HE.out

set_option maxHeartbeats 2000000 in
theorem cellsof_var_no (k : Int) (nm : ByteArray) (n : Int) (x : Bool) (r : Nat) (h : k = 9) (hne : (⟨k, nm, n, false, 0⟩ : It) ≠ ⟨k, nm, n, x, r⟩) (w : World) :
    Calls Tryd.prog 55 #[itA k nm n x (r : Int)] w (NewLen w 0) := by
  have HS := Lib.hid (fun W => shape_var ⟨k, nm, n, x, r⟩ h W)
  have hq : ∀ W : World, (binOp .neq 57 (itA k nm n false 0) (itA k nm n x (r : Int))).run Tryd.prog W = .ok (.bool true) W := fun W => by
    have h := item_neq W (⟨k, nm, n, false, 0⟩) ⟨k, nm, n, x, r⟩
    rw [decide_eq_false hne] at h
    exact h
  clear hne
  clear h
  go_enter Tryd.func55, Tryd.ntmps55
  go_wp2_with fail
  refine (HS.out _).mono ?_
  rintro e w1 ⟨rfl, hb⟩
  have hb' : Below (w.heap.size + 1) (w.alloc (.cells #[.int .i64 k, .string nm, .int .i32 n, .bool x, .int .u32 (r : Int)] 57)) w1 := hb.mono (by simp)
  have HBX := Lib.hid hb'
  have HB := Lib.hid (((Below.refl w.heap.size w).alloc (Nat.le_refl _) _).trans (hb.mono (by simp)))
  clear hb hb' HS
  go_wp2_with fail
  go_region_held3 (fun w' => w'.cell? ⟨w.heap.size, 0, none⟩ = some (.int .i64 k) ∧ w'.cell? ⟨w.heap.size, 1, none⟩ = some (.string nm) ∧ w'.cell? ⟨w.heap.size, 2, none⟩ = some (.int .i32 n) ∧ w'.cell? ⟨w.heap.size, 3, none⟩ = some (.bool x) ∧ w'.cell? ⟨w.heap.size, 4, none⟩ = some (.int .u32 (r : Int))) (first | exact it_box HBX.out.drew | go_keep | exact it_keep HBX.out hb2) (first | (go_at_call 131; refine (variable_item k n nm _).mono ?_; rintro e w2 ⟨rfl, hb2⟩))
  have HB2 := Lib.hid (HB.out.drew.trans (hb2.mono HB.out.size))
  clear hb2
  go_wp2_with fail
  go_ret
  exact new_none HB2.out

end Go.Proofs.YtllhcdkbgknjdaaDoor

namespace Go.Proofs.YtllhcdkbgknjdaaDoor
open Go.RowKit Go

set_option maxHeartbeats 2000000 in
theorem cellsof_raw_yes (r : Nat) (h : r < 4294967296) (w : World) (hcs : TabsAny w) :
    Calls Tryd.prog 55 #[itA 0 ⟨#[]⟩ 0 false (r : Int)] w (NewLen w 1) := by
  have HS := Lib.hid (fun W => shape_raw ⟨0, ⟨#[]⟩, 0, false, r⟩ (by simp) W)
  have HC := Lib.hid (fun W (hb : Below w.heap.size w W) => (fun (_ : TabsAny W) => raw_cells 0 r h W) (hcs.below hb))
  clear h hcs
  go_enter Tryd.func55, Tryd.ntmps55
  go_wp2_with fail
  refine (HS.out _).mono ?_
  rintro e w1 ⟨rfl, hb⟩
  have hb' : Below (w.heap.size + 1) (w.alloc (.cells #[.int .i64 0, .string ⟨#[]⟩, .int .i32 0, .bool false, .int .u32 (r : Int)] 57)) w1 := hb.mono (by simp)
  have HBX := Lib.hid hb'
  have HB := Lib.hid (((Below.refl w.heap.size w).alloc (Nat.le_refl _) _).trans (hb.mono (by simp)))
  clear hb hb' HS
  go_wp2_with fail
  go_region_held3 (fun w' => w'.cell? ⟨w.heap.size, 0, none⟩ = some (.int .i64 0) ∧ w'.cell? ⟨w.heap.size, 1, none⟩ = some (.string ⟨#[]⟩) ∧ w'.cell? ⟨w.heap.size, 2, none⟩ = some (.int .i32 0) ∧ w'.cell? ⟨w.heap.size, 3, none⟩ = some (.bool false) ∧ w'.cell? ⟨w.heap.size, 4, none⟩ = some (.int .u32 (r : Int))) (first | exact it_box HBX.out.drew | go_keep | exact it_keep HBX.out hb2) (first | (go_at_call 133; refine (raw_item 0 (r : Int) _).mono ?_; rintro e w2 ⟨rfl, hb2⟩))
  have HB2 := Lib.hid (HB.out.drew.trans (hb2.mono HB.out.size))
  clear hb2
  go_wp2_with fail
  refine (HC.out _ HB2.out).mono ?_
  rintro e w3 ⟨v, zs, rfl, hl, hz, hown, hb3⟩
  have HE := Lib.hid (show NewLen w 1 (.returned v) w3 from ⟨v, zs, rfl, hl, hz, own_base hown HB2.out.size, HB2.out.trans (hb3.mono HB2.out.size)⟩)
  clear hl hz hown hb3
  go_wp2_with fail
  go_ret
  exact HE.out

set_option maxHeartbeats 2000000 in
theorem cellsof_raw_no (k : Int) (nm : ByteArray) (n : Int) (x : Bool) (r : Nat) (h : ¬ (1 ≤ k ∧ k ≤ 9)) (hne : (⟨0, ⟨#[]⟩, 0, false, r⟩ : It) ≠ ⟨k, nm, n, x, r⟩) (w : World) :
    Calls Tryd.prog 55 #[itA k nm n x (r : Int)] w (NewLen w 0) := by
  have HS := Lib.hid (fun W => shape_raw ⟨k, nm, n, x, r⟩ h W)
  have hq : ∀ W : World, (binOp .neq 57 (itA 0 ⟨#[]⟩ 0 false (r : Int)) (itA k nm n x (r : Int))).run Tryd.prog W = .ok (.bool true) W := fun W => by
    have h := item_neq W (⟨0, ⟨#[]⟩, 0, false, r⟩) ⟨k, nm, n, x, r⟩
    rw [decide_eq_false hne] at h
    exact h
  clear hne
  clear h
  go_enter Tryd.func55, Tryd.ntmps55
  go_wp2_with fail
  refine (HS.out _).mono ?_
  rintro e w1 ⟨rfl, hb⟩
  have hb' : Below (w.heap.size + 1) (w.alloc (.cells #[.int .i64 k, .string nm, .int .i32 n, .bool x, .int .u32 (r : Int)] 57)) w1 := hb.mono (by simp)
  have HBX := Lib.hid hb'
  have HB := Lib.hid (((Below.refl w.heap.size w).alloc (Nat.le_refl _) _).trans (hb.mono (by simp)))
  clear hb hb' HS
  go_wp2_with fail
  go_region_held3 (fun w' => w'.cell? ⟨w.heap.size, 0, none⟩ = some (.int .i64 k) ∧ w'.cell? ⟨w.heap.size, 1, none⟩ = some (.string nm) ∧ w'.cell? ⟨w.heap.size, 2, none⟩ = some (.int .i32 n) ∧ w'.cell? ⟨w.heap.size, 3, none⟩ = some (.bool x) ∧ w'.cell? ⟨w.heap.size, 4, none⟩ = some (.int .u32 (r : Int))) (first | exact it_box HBX.out.drew | go_keep | exact it_keep HBX.out hb2) (first | (go_at_call 133; refine (raw_item 0 (r : Int) _).mono ?_; rintro e w2 ⟨rfl, hb2⟩))
  have HB2 := Lib.hid (HB.out.drew.trans (hb2.mono HB.out.size))
  clear hb2
  go_wp2_with fail
  go_ret
  exact new_none HB2.out

end Go.Proofs.YtllhcdkbgknjdaaDoor

namespace Go.Proofs.YtllhcdkbgknjdaaDoor
open Go.RowKit Go

theorem varCells_count (l : List Nat) (n : Int) : (varCells l n).length = if l.length = 1 then 2 else 0 := by
  match l with
  | [] => rfl
  | [f] => rfl
  | _ :: _ :: _ => simp [varCells]
theorem impl_cellsof (it : It) (hin : ItIn it) (w : World) (hcs : TabsAny w) : Calls Tryd.prog 55 #[itVal it] w (NewLen w (cellsOf it).length) := by
  have hin2 := hin
  obtain ⟨k, nm, n, x, r⟩ := it
  obtain ⟨-, -, -, -, hr, hs⟩ := hin2
  by_cases hw : 1 ≤ k ∧ k ≤ 6
  · rw [cells_words (it := ⟨k, nm, n, x, r⟩) hw]
    have hw2 : wordK k = true := decide_eq_true hw
    split
    · rename_i h
      obtain ⟨h1, h2, h3⟩ : n = 0 ∧ x = false ∧ r = 0 := h
      subst h1 h2 h3
      rw [wordCells_len]
      exact cellsof_word_yes k nm hw2 hs w hcs
    · rename_i h
      exact cellsof_word_no k nm n x r hw2 (fun e => h (by injection e with _ _ e3 e4 e5; exact ⟨e3.symm, e4.symm, e5.symm⟩)) w
  · by_cases hn : k = 7 ∨ k = 8
    · rw [cells_nums (it := ⟨k, nm, n, x, r⟩) hn]
      have hn2 : numK k = true := decide_eq_true (by omega)
      split
      · rename_i h
        obtain ⟨h1, h2⟩ : nm = noText ∧ r = 0 := h
        subst h1 h2
        by_cases hwd : n < -67108864 ∨ 67108863 < n
        · have e : (numCells n x (shortOf k) (longOf k)).length = 2 := by unfold numCells; rw [if_pos (show wideN n = true from decide_eq_true hwd)]; rfl
          show Calls _ _ _ _ (NewLen w (numCells n x (shortOf k) (longOf k)).length)
          rw [e]
          exact cellsof_wide k n x hn2 hwd w hcs
        · have e : (numCells n x (shortOf k) (longOf k)).length = 1 := by unfold numCells; rw [if_neg (by rw [show wideN n = false from decide_eq_false hwd]; decide)]; rfl
          show Calls _ _ _ _ (NewLen w (numCells n x (shortOf k) (longOf k)).length)
          rw [e]
          exact cellsof_narrow k n x hn2 (by omega) (by omega) w hcs
      · rename_i h
        exact cellsof_num_no k nm n x r hn2 (fun e => h (by injection e with _ e2 _ _ e5; exact ⟨e2.symm, e5.symm⟩)) w
    · by_cases h9 : k = 9
      · have e : cellsOf ⟨k, nm, n, x, r⟩ = if x = false ∧ r = 0 then varCells (packs nm.data.toList) n else [] := by
          unfold cellsOf
          rw [if_neg (by show ¬ k = 0; omega), if_neg (by show ¬ (k = 7 ∨ k = 8); omega), if_pos h9]
        rw [e]
        split
        · rename_i h
          obtain ⟨h1, h2⟩ := h
          subst h1 h2
          exact cellsof_var_yes k nm n h9 hs _ (varCells_count _ _).symm w hcs
        · rename_i h
          exact cellsof_var_no k nm n x r h9 (fun e => h (by injection e with _ _ _ e4 e5; exact ⟨e4.symm, e5.symm⟩)) w
      · by_cases h0 : k = 0 ∧ nm = noText ∧ n = 0 ∧ x = false
        · obtain ⟨h1, h2, h3, h4⟩ := h0
          subst h1 h2 h3 h4
          have e : (cellsOf ⟨0, noText, 0, false, r⟩).length = 1 := rfl
          rw [e]
          exact cellsof_raw_yes r hr w hcs
        · have e : cellsOf ⟨k, nm, n, x, r⟩ = [] := by
            unfold cellsOf
            by_cases hk : k = 0
            · rw [if_pos hk, if_neg (fun h => h0 ⟨hk, h.1, h.2.1, h.2.2⟩)]
            · rw [if_neg hk, if_neg hn, if_neg h9, if_neg hw]
          rw [e]
          exact cellsof_raw_no k nm n x r (by omega) (fun e => h0 (by injection e with e1 e2 e3 e4 _; exact ⟨e1.symm, e2.symm, e3.symm, e4.symm⟩)) w
theorem impl_itemok (it : It) (hin : ItIn it) (w : World) (hcs : TabsAny w) : Calls Tryd.prog 54 #[itVal it] w fun e w' => e = .returned (.bool (decide (cellsOf it ≠ []))) ∧ Below w.heap.size w w' := by
  have HC := Lib.hid (fun W (hb : Below w.heap.size w W) => impl_cellsof it hin W (hcs.below hb))
  obtain ⟨k, nm, n, x, r⟩ := it
  have hd : decide (cellsOf ⟨k, nm, n, x, r⟩ ≠ []) = decide (0 < (cellsOf ⟨k, nm, n, x, r⟩).length) := decide_eq_decide.2 List.length_pos_iff.symm
  rw [hd]
  obtain ⟨m, hm⟩ : ∃ m, (cellsOf ⟨k, nm, n, x, r⟩).length = m := ⟨_, rfl⟩
  rw [hm] at HC ⊢
  clear hm hd hcs hin
  by_cases h0 : 0 < m
  · have e : decide (0 < m) = true := decide_eq_true h0
    rw [e]
    clear e
    go_enter Tryd.func54, Tryd.ntmps54
    go_wp2_with fail
    refine (HC.out _ ((Below.refl _ _).alloc (Nat.le_refl _) _)).mono ?_
    rintro e w1 ⟨v, zs, rfl, hl, -, hown, hb⟩
    obtain ⟨A, cap, rfl⟩ := own_slice hown
    have HB := Lib.hid (((Below.refl w.heap.size w).alloc (Nat.le_refl _) _).trans (hb.mono (by simp)))
    subst hl
    clear hown hb HC
    go_wp2_with fail
    go_ret
    exact ⟨rfl, HB.out⟩
  · have e : decide (0 < m) = false := decide_eq_false h0
    rw [e]
    obtain rfl : m = 0 := by omega
    clear e h0
    go_enter Tryd.func54, Tryd.ntmps54
    go_wp2_with fail
    refine (HC.out _ ((Below.refl _ _).alloc (Nat.le_refl _) _)).mono ?_
    rintro e w1 ⟨v, zs, rfl, hl, -, hown, hb⟩
    obtain ⟨A, cap, rfl⟩ := own_slice hown
    rw [hl]
    have HB := Lib.hid (((Below.refl w.heap.size w).alloc (Nat.le_refl _) _).trans (hb.mono (by simp)))
    clear hown hb HC hl
    go_wp2_with fail
    go_ret
    exact ⟨rfl, HB.out⟩
end Go.Proofs.YtllhcdkbgknjdaaDoor

namespace Go.Proofs.YtllhcdkbgknjdaaDoor
open Go.RowKit Go

end Go.Proofs.YtllhcdkbgknjdaaDoor

namespace Go.Proofs.YtllhcdkbgknjdaaDoor
open Go.RowKit Go

/-- An item is stored. -/
def putAll (w : World) (g : Nat) (k : Int) (nm : ByteArray) (n : Int) (hx : Bool) (r : Int) : World := ((((w.setCell ⟨g, 0, none⟩ (.int .i64 k)).setCell ⟨g, 1, none⟩ (.string nm)).setCell ⟨g, 2, none⟩ (.int .i32 n)).setCell ⟨g, 3, none⟩ (.bool hx)).setCell ⟨g, 4, none⟩ (.int .u32 r)
theorem putAll_below {w w1 : World} {g : Nat} (h : Below w.heap.size w w1) (hg : w.heap.size ≤ g) (k : Int) (nm : ByteArray) (n : Int) (hx : Bool) (r : Int) : Below w.heap.size w (putAll w1 g k nm n hx r) :=
  ((((h.setCell hg _).setCell hg _).setCell hg _).setCell hg _).setCell hg _
theorem putAll_blk {w : World} {g : Nat} {t : TypeId} {k0 : Int} {nm0 : ByteArray} {n0 : Int} {hx0 : Bool} {r0 : Int} (h : Blk w g t (itC k0 nm0 n0 hx0 r0)) (k : Int) (nm : ByteArray) (n : Int) (hx : Bool) (r : Int) : Blk (putAll w g k nm n hx r) g t (itC k nm n hx r) := item_put h k nm n hx r
/-- What Recolor answers. -/
def RecEnd (it : It) (k : Int) (w : World) (e : Ending) (w' : World) : Prop := e = .returned (.tuple #[itVal (recol it k), .bool (recolOk it k)]) ∧ Below w.heap.size w w'
theorem rec_no {it : It} {k : Int} {w w' : World} (h : recolOk it k = false) (hb : Below w.heap.size w w') : RecEnd it k w (.returned (.tuple #[itA 0 ⟨#[]⟩ 0 false 0, .bool false])) w' := by
  refine ⟨?_, hb⟩
  have e : recol it k = zeroIt := by unfold recol; rw [if_neg (by rw [h]; decide)]
  rw [e, h]
  rfl
theorem rec_yes {k0 : Int} {nm : ByteArray} {n : Int} {x : Bool} {r : Nat} {k : Int} {w w' : World} (h : recolOk ⟨k0, nm, n, x, r⟩ k = true) (hb : Below w.heap.size w w') : RecEnd ⟨k0, nm, n, x, r⟩ k w (.returned (.tuple #[itA k nm n x (r : Int), .bool true])) w' := by
  refine ⟨?_, hb⟩
  have e : recol ⟨k0, nm, n, x, r⟩ k = ⟨k, nm, n, x, r⟩ := by unfold recol; rw [if_pos h]
  rw [e, h]

end Go.Proofs.YtllhcdkbgknjdaaDoor

namespace Go.Proofs.YtllhcdkbgknjdaaDoor
open Go.RowKit Go

theorem spec_pack_len (s : ByteArray) (hs : s.size ≤ 4611686018427387904) (w : World) : Calls Tryd.prog 78 #[.string s] w (NewLen w (packs s.data.toList).length) :=
  (spec_pack s hs w).mono fun _ _ h => NewLen.of_new (fun z hz => Nat.lt_trans (packs_small _ z hz) (by decide)) h

set_option maxHeartbeats 2000000 in
theorem spec_word (t : Nat) (nm : ByteArray) (hs : nm.size ≤ 4611686018427387904) (w : World) :
    Calls Tryd.prog 64 #[.int .u32 t, .string nm] w (NewLen w (packs nm.data.toList).length) := by
  have HP := Lib.hid (spec_pack_len nm hs w)
  have hm24 := (packs_len nm.data.toList).2
  obtain ⟨m, hm⟩ : ∃ m, (packs nm.data.toList).length = m := ⟨_, rfl⟩
  rw [hm] at HP hm24 ⊢
  clear hm hs
  go_enter Tryd.func64, Tryd.ntmps64
  go_wp2_with fail
  refine HP.out.mono ?_
  rintro e w2 ⟨v, zs, rfl, hl, hz, hown, hb2⟩
  have HB2 := Lib.hid hb2
  have HO := Lib.hid hown
  have HZ := Lib.hid hz
  subst hl
  rcases hown.2 with ⟨rfl, h0⟩ | ⟨g, cap, cur, rfl, -⟩
  · obtain rfl : zs = [] := List.eq_nil_of_length_eq_zero h0
    clear hb2 hown hz HP h0
    go_wp2_with fail
    go_loopw [6] (fun vi wr => vi = .int .i64 0 ∧ wr = w2) (fun _ _ => 0)
    case atStart => exact ⟨rfl, rfl⟩
    case round =>
      obtain ⟨rfl, rfl⟩ := hrel
      go_wp2_with fail
      go_ret
      exact ⟨_, [], rfl, rfl, fun _ hz => absurd hz List.not_mem_nil, World.ownsRow_nil _ _ _ _, HB2.out⟩
  · clear hb2 hown hz HP
    go_wp2_with fail
    go_loopw [6] (fun vi wr => ∃ (i : Nat) (ys : List Nat), vi = .int .i64 i ∧ i ≤ zs.length ∧ Hid (ys.length = zs.length ∧ ∀ z ∈ ys, z < 4294967296) ∧ wr.ownsRow w.heap.size 51 1 (.slice (some ⟨g, 0, none⟩) zs.length cap) zs.length (ys.map u32v) ∧ Below w.heap.size w wr) (fun vi _ => zs.length - (intOf vi).toNat)
    case atStart => exact ⟨0, zs, rfl, by omega, Lib.hid ⟨rfl, HZ.out⟩, HO.out, HB2.out⟩
    case round =>
      obtain ⟨i, ys, rfl, hi, HY, hO, hB⟩ := hrel
      by_cases hp : i < zs.length
      · have hpy : i < ys.length := by rw [HY.out.1]; exact hp
        have hzi := HY.out.2 _ (List.getElem_mem hpy)
        have hd : wr.cell? ⟨g, i, none⟩ = some (u32v ys[i]) := by
          rw [hO.cellAt i (by omega)]
          simp [hpy]
        obtain ⟨z, hzz⟩ : ∃ z, ys[i] = z := ⟨_, rfl⟩
        rw [hzz] at hd hzi
        change wr.cell? ⟨g, i, none⟩ = some (.int .u32 (z : Int)) at hd
        obtain ⟨y, hy, hyl⟩ := u32_mod ((z : Int) * 16)
        have HYL := Lib.hid hyl
        have hs := hO.stored i (.int .u32 (y : Int))
        have hf := hO.frozenAt i
        have i2 : (i : Int) < (zs.length : Int) := by omega
        have HGB := Lib.hid (own_lt hO g rfl)
        have hO1 := hs.1
        rw [show Value.int .u32 (y : Int) = u32v y from rfl, map_setU] at hO1
        have HB := Lib.hid (hB.grown hs.2 hB.size (fun k hk => by obtain rfl := Option.some.inj hk; exact HGB.out))
        have HO1 := Lib.hid hO1
        by_cases h0 : i = 0
        · subst h0
          have hd2 : (wr.setCell ⟨g, 0, none⟩ (.int .u32 (y : Int))).cell? ⟨g, 0, none⟩ = some (.int .u32 (y : Int)) := World.cell?_setCell_same _ _ _ hd
          have hf2 := hO1.frozenAt 0
          obtain ⟨y2, hy2, hyl2⟩ := u32_mod ((y : Int) + (t : Int))
          have hs2 := hO1.stored 0 (.int .u32 (y2 : Int))
          have hO2 := hs2.1
          rw [show Value.int .u32 (y2 : Int) = u32v y2 from rfl, map_setU] at hO2
          have HO2 := Lib.hid hO2
          have HB3 := Lib.hid (HB.out.grown hs2.2 HB.out.size (fun k hk => by obtain rfl := Option.some.inj hk; exact HGB.out))
          have HY2 := Lib.hid hyl2
          clear hO hB hzz hpy HO HB2 HZ hs hs2 hO1 hO2 hyl hyl2
          go_wp2_with fail
          go_roundw
          case rel => exact ⟨1, (ys.set 0 y).set 0 y2, rfl, by omega, Lib.hid ⟨by rw [List.length_set, List.length_set]; exact HY.out.1, small_set (small_set HY.out.2 0 HYL.out) 0 HY2.out⟩, HO2.out, HB3.out⟩
          case measure => simp [intOf]; omega
        · have hne : ((i : Int) == 0) = false := by simp; omega
          clear hO hB hzz hpy HO HB2 HZ hs hO1 hyl h0
          go_wp2_with fail
          go_roundw
          case rel => exact ⟨i + 1, ys.set i y, by go_num, by omega, Lib.hid ⟨by rw [List.length_set]; exact HY.out.1, small_set HY.out.2 i HYL.out⟩, HO1.out, HB.out⟩
          case measure => simp [intOf]; omega
      · obtain rfl : i = zs.length := by omega
        go_wp2_with fail
        go_ret
        exact ⟨_, ys, rfl, HY.out.1, HY.out.2, by rw [HY.out.1]; exact hO, hB⟩
end Go.Proofs.YtllhcdkbgknjdaaDoor

namespace Go.Proofs.YtllhcdkbgknjdaaDoor
open Go.RowKit Go

set_option maxHeartbeats 1000000 in
theorem spec_narrow (n : Int) (x : Bool) (s l : Nat) (h1 : -67108864 ≤ n) (h2 : n ≤ 67108863) (w : World) : Calls Tryd.prog 63 #[.int .i32 n, .bool x, .int .u32 s, .int .u32 l] w (NewLen w 1) := by
  cases x with
  | true =>
    go_enter Tryd.func63, Tryd.ntmps63
    go_wp2_with fail
    go_ret
    exact new_one rfl (u32_mod _) (Below.refl _ _)
  | false =>
    go_enter Tryd.func63, Tryd.ntmps63
    go_wp2_with fail
    go_ret
    exact new_one rfl (u32_mod _) (Below.refl _ _)
set_option maxHeartbeats 1000000 in
theorem spec_wide (n : Int) (x : Bool) (s l : Nat) (h : n < -67108864 ∨ 67108863 < n) (w : World) : Calls Tryd.prog 63 #[.int .i32 n, .bool x, .int .u32 s, .int .u32 l] w (NewLen w 2) := by
  rcases h with h | h
  · cases x with
    | true =>
      go_enter Tryd.func63, Tryd.ntmps63
      go_wp2_with fail
      go_ret
      exact new_two rfl (u32_mod _) (u32_some _) (Below.refl _ _)
    | false =>
      go_enter Tryd.func63, Tryd.ntmps63
      go_wp2_with fail
      go_ret
      exact new_two rfl (u32_mod _) (u32_some _) (Below.refl _ _)
  · have h' : -67108864 ≤ n := by omega
    cases x with
    | true =>
      go_enter Tryd.func63, Tryd.ntmps63
      go_wp2_with fail
      go_ret
      exact new_two rfl (u32_mod _) (u32_some _) (Below.refl _ _)
    | false =>
      go_enter Tryd.func63, Tryd.ntmps63
      go_wp2_with fail
      go_ret
      exact new_two rfl (u32_mod _) (u32_some _) (Below.refl _ _)
set_option maxHeartbeats 1000000 in
theorem spec_tag (k : Int) (w : World) : Calls Tryd.prog 65 #[.int .i64 k] w fun e w' => e = .returned (.int .u32 (tagW k : Int)) ∧ w = w' := by
  by_cases h1 : k = 1
  · subst h1
    go_enter Tryd.func65, Tryd.ntmps65
    go_wp2_with fail
    go_ret
    exact ⟨rfl, rfl⟩
  by_cases h2 : k = 2
  · subst h2
    go_enter Tryd.func65, Tryd.ntmps65
    go_wp2_with fail
    go_ret
    exact ⟨rfl, rfl⟩
  by_cases h3 : k = 3
  · subst h3
    go_enter Tryd.func65, Tryd.ntmps65
    go_wp2_with fail
    go_ret
    exact ⟨rfl, rfl⟩
  by_cases h4 : k = 4
  · subst h4
    go_enter Tryd.func65, Tryd.ntmps65
    go_wp2_with fail
    go_ret
    exact ⟨rfl, rfl⟩
  by_cases h5 : k = 5
  · subst h5
    go_enter Tryd.func65, Tryd.ntmps65
    go_wp2_with fail
    go_ret
    exact ⟨rfl, rfl⟩
  by_cases h6 : k = 6
  · subst h6
    go_enter Tryd.func65, Tryd.ntmps65
    go_wp2_with fail
    go_ret
    exact ⟨rfl, rfl⟩
  have e : tagW k = 0 := by unfold tagW; rw [if_neg h1, if_neg h2, if_neg h3, if_neg h4, if_neg h5, if_neg h6]
  have b1 : (k == 1) = false := by simpa using h1
  have b2 : (k == 2) = false := by simpa using h2
  have b3 : (k == 3) = false := by simpa using h3
  have b4 : (k == 4) = false := by simpa using h4
  have b5 : (k == 5) = false := by simpa using h5
  have b6 : (k == 6) = false := by simpa using h6
  rw [e]
  clear e h1 h2 h3 h4 h5 h6
  go_enter Tryd.func65, Tryd.ntmps65
  go_wp2_with fail
  go_ret
  exact ⟨rfl, rfl⟩
end Go.Proofs.YtllhcdkbgknjdaaDoor

namespace Go.Proofs.YtllhcdkbgknjdaaDoor
open Go.RowKit Go

set_option maxHeartbeats 1000000 in
theorem sc_raw_NVVE (n : Int) (hn : (n == 0) = false) (x : Bool) (r : Nat) (w : World) : Calls Tryd.prog 46 #[itA 0 ⟨#[]⟩ n x (r : Int)] w (NewLen w 0) := by
  go_enter Tryd.func46, Tryd.ntmps46
  go_wp2_with fail
  go_ret
  exact new_emp (by simp) (by go_grown)

set_option maxHeartbeats 1000000 in
theorem sc_raw_NVVN (nm : ByteArray) (hnm : nm.toList.isEmpty = false) (n : Int) (hn : (n == 0) = false) (x : Bool) (r : Nat) (w : World) : Calls Tryd.prog 46 #[itA 0 nm n x (r : Int)] w (NewLen w 0) := by
  go_enter Tryd.func46, Tryd.ntmps46
  go_wp2_with fail
  go_ret
  exact new_emp (by simp) (by go_grown)

set_option maxHeartbeats 1000000 in
theorem sc_raw_ZTVE (r : Nat) (w : World) : Calls Tryd.prog 46 #[itA 0 ⟨#[]⟩ 0 true (r : Int)] w (NewLen w 0) := by
  go_enter Tryd.func46, Tryd.ntmps46
  go_wp2_with fail
  go_ret
  exact new_emp (by simp) (by go_grown)

set_option maxHeartbeats 1000000 in
theorem sc_raw_ZTVN (nm : ByteArray) (hnm : nm.toList.isEmpty = false) (r : Nat) (w : World) : Calls Tryd.prog 46 #[itA 0 nm 0 true (r : Int)] w (NewLen w 0) := by
  go_enter Tryd.func46, Tryd.ntmps46
  go_wp2_with fail
  go_ret
  exact new_emp (by simp) (by go_grown)

set_option maxHeartbeats 1000000 in
theorem sc_raw_ZFNE (r : Nat) (hr : ((r : Int) == 0) = false) (hr2 : r < 4294967296) (w : World) : Calls Tryd.prog 46 #[itA 0 ⟨#[]⟩ 0 false (r : Int)] w (NewLen w 1) := by
  have HR := Lib.hid hr2
  clear hr2
  go_enter Tryd.func46, Tryd.ntmps46
  go_wp2_with fail
  go_ret
  exact new_one (by simp) ⟨r, rfl, HR.out⟩ (by go_grown)

set_option maxHeartbeats 1000000 in
theorem sc_raw_ZFNN (nm : ByteArray) (hnm : nm.toList.isEmpty = false) (r : Nat) (hr : ((r : Int) == 0) = false) (w : World) : Calls Tryd.prog 46 #[itA 0 nm 0 false (r : Int)] w (NewLen w 0) := by
  go_enter Tryd.func46, Tryd.ntmps46
  go_wp2_with fail
  go_ret
  exact new_emp (by simp) (by go_grown)

set_option maxHeartbeats 1000000 in
theorem sc_raw_ZFZE  (w : World) : Calls Tryd.prog 46 #[itA 0 ⟨#[]⟩ 0 false 0] w (NewLen w 1) := by
  go_enter Tryd.func46, Tryd.ntmps46
  go_wp2_with fail
  go_ret
  exact new_one (by simp) ⟨0, rfl, by omega⟩ (by go_grown)

set_option maxHeartbeats 1000000 in
theorem sc_raw_ZFZN (nm : ByteArray) (hnm : nm.toList.isEmpty = false) (w : World) : Calls Tryd.prog 46 #[itA 0 nm 0 false 0] w (NewLen w 0) := by
  go_enter Tryd.func46, Tryd.ntmps46
  go_wp2_with fail
  go_ret
  exact new_emp (by simp) (by go_grown)

end Go.Proofs.YtllhcdkbgknjdaaDoor

namespace Go.Proofs.YtllhcdkbgknjdaaDoor
open Go.RowKit Go

set_option maxHeartbeats 1000000 in
theorem sc_n7_NVZE (n : Int) (hn : (n == 0) = false) (x : Bool) (m : Nat) (HN : Hid (∀ W, Calls Tryd.prog 63 #[.int .i32 n, .bool x, .int .u32 8, .int .u32 2] W (NewLen W m))) (w : World) : Calls Tryd.prog 46 #[itA 7 ⟨#[]⟩ n x 0] w (NewLen w m) := by
  go_enter Tryd.func46, Tryd.ntmps46
  go_wp2_with fail
  refine (HN.out _).mono ?_
  rintro e w3 ⟨v, zs, rfl, hl, hz, hown, hb3⟩
  have HE := Lib.hid (show NewLen w m (.returned v) w3 from ⟨v, zs, rfl, hl, hz, own_base hown (by simp), (((Below.refl w.heap.size w).alloc (Nat.le_refl _) _).trans (hb3.mono (by simp)))⟩)
  clear hl hz hown hb3
  go_wp2_with fail
  go_ret
  exact HE.out

set_option maxHeartbeats 1000000 in
theorem sc_n7_NVNE (n : Int) (hn : (n == 0) = false) (x : Bool) (r : Nat) (hr : ((r : Int) == 0) = false) (w : World) : Calls Tryd.prog 46 #[itA 7 ⟨#[]⟩ n x (r : Int)] w (NewLen w 0) := by
  go_enter Tryd.func46, Tryd.ntmps46
  go_wp2_with fail
  go_ret
  exact new_emp (by simp) (by go_grown)

set_option maxHeartbeats 1000000 in
theorem sc_n7_NVVN (nm : ByteArray) (hnm : nm.toList.isEmpty = false) (n : Int) (hn : (n == 0) = false) (x : Bool) (r : Nat) (w : World) : Calls Tryd.prog 46 #[itA 7 nm n x (r : Int)] w (NewLen w 0) := by
  go_enter Tryd.func46, Tryd.ntmps46
  go_wp2_with fail
  go_ret
  exact new_emp (by simp) (by go_grown)

set_option maxHeartbeats 1000000 in
theorem sc_n7_ZTZE (m : Nat) (HN : Hid (∀ W, Calls Tryd.prog 63 #[.int .i32 0, .bool true, .int .u32 8, .int .u32 2] W (NewLen W m))) (w : World) : Calls Tryd.prog 46 #[itA 7 ⟨#[]⟩ 0 true 0] w (NewLen w m) := by
  go_enter Tryd.func46, Tryd.ntmps46
  go_wp2_with fail
  refine (HN.out _).mono ?_
  rintro e w3 ⟨v, zs, rfl, hl, hz, hown, hb3⟩
  have HE := Lib.hid (show NewLen w m (.returned v) w3 from ⟨v, zs, rfl, hl, hz, own_base hown (by simp), (((Below.refl w.heap.size w).alloc (Nat.le_refl _) _).trans (hb3.mono (by simp)))⟩)
  clear hl hz hown hb3
  go_wp2_with fail
  go_ret
  exact HE.out

set_option maxHeartbeats 1000000 in
theorem sc_n7_ZTNE (r : Nat) (hr : ((r : Int) == 0) = false) (w : World) : Calls Tryd.prog 46 #[itA 7 ⟨#[]⟩ 0 true (r : Int)] w (NewLen w 0) := by
  go_enter Tryd.func46, Tryd.ntmps46
  go_wp2_with fail
  go_ret
  exact new_emp (by simp) (by go_grown)

set_option maxHeartbeats 1000000 in
theorem sc_n7_ZTVN (nm : ByteArray) (hnm : nm.toList.isEmpty = false) (r : Nat) (w : World) : Calls Tryd.prog 46 #[itA 7 nm 0 true (r : Int)] w (NewLen w 0) := by
  go_enter Tryd.func46, Tryd.ntmps46
  go_wp2_with fail
  go_ret
  exact new_emp (by simp) (by go_grown)

set_option maxHeartbeats 1000000 in
theorem sc_n7_ZFNE (r : Nat) (hr : ((r : Int) == 0) = false) (w : World) : Calls Tryd.prog 46 #[itA 7 ⟨#[]⟩ 0 false (r : Int)] w (NewLen w 0) := by
  go_enter Tryd.func46, Tryd.ntmps46
  go_wp2_with fail
  go_ret
  exact new_emp (by simp) (by go_grown)

set_option maxHeartbeats 1000000 in
theorem sc_n7_ZFNN (nm : ByteArray) (hnm : nm.toList.isEmpty = false) (r : Nat) (hr : ((r : Int) == 0) = false) (w : World) : Calls Tryd.prog 46 #[itA 7 nm 0 false (r : Int)] w (NewLen w 0) := by
  go_enter Tryd.func46, Tryd.ntmps46
  go_wp2_with fail
  go_ret
  exact new_emp (by simp) (by go_grown)

set_option maxHeartbeats 1000000 in
theorem sc_n7_ZFZE (m : Nat) (HN : Hid (∀ W, Calls Tryd.prog 63 #[.int .i32 0, .bool false, .int .u32 8, .int .u32 2] W (NewLen W m))) (w : World) : Calls Tryd.prog 46 #[itA 7 ⟨#[]⟩ 0 false 0] w (NewLen w m) := by
  go_enter Tryd.func46, Tryd.ntmps46
  go_wp2_with fail
  refine (HN.out _).mono ?_
  rintro e w3 ⟨v, zs, rfl, hl, hz, hown, hb3⟩
  have HE := Lib.hid (show NewLen w m (.returned v) w3 from ⟨v, zs, rfl, hl, hz, own_base hown (by simp), (((Below.refl w.heap.size w).alloc (Nat.le_refl _) _).trans (hb3.mono (by simp)))⟩)
  clear hl hz hown hb3
  go_wp2_with fail
  go_ret
  exact HE.out

set_option maxHeartbeats 1000000 in
theorem sc_n7_ZFZN (nm : ByteArray) (hnm : nm.toList.isEmpty = false) (w : World) : Calls Tryd.prog 46 #[itA 7 nm 0 false 0] w (NewLen w 0) := by
  go_enter Tryd.func46, Tryd.ntmps46
  go_wp2_with fail
  go_ret
  exact new_emp (by simp) (by go_grown)

end Go.Proofs.YtllhcdkbgknjdaaDoor
