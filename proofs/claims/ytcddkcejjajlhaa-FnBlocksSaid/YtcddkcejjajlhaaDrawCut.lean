/-
  Draws: numbers, names, items (cut out of the templates of chapters 1 to 4).
-/
import Derived.Test.YtcddkcejjajlhaaKit
import Derived.Test.YtcddkcejjajlhaaLaw
import Derived.Test.YtcddkcejjajlhaaBlk
import Derived.Test.YtcddkcejjajlhaaIn
import Derived.Test.YtcddkcejjajlhaaOwn
import Derived.Test.YtcddkcejjajlhaaU32
import Derived.Test.YtcddkcejjajlhaaToU
import Derived.Test.YtcddkcejjajlhaaSpecCut
import Derived.Lib.Bytealg
import Derived.Lib.IndexLaws
import Derived.Test.YtcddkcejjajlhaaShelf
import Derived.RegionTactic
import Derived.ChangeAlike
import Derived.Handy
import Derived.Laws.BitsAllLaws
import Derived.Laws.BitsLemmas
import Derived.BigCall
import Derived.BigGuard
import Derived.Laws.BytesArg
import Derived.OwnWalk
import Derived.Deep.RegionWith
namespace Go.Proofs.Ytcddkcejjajlhaa

/-- The byte of a letter; 0 where there is none. -/
def letAt (k : Int) : Int := if 0 ≤ k ∧ k ≤ 47 then ((lets.data.toList.getD k.toNat 0).toNat : Int) else 0
theorem letAt_none {k : Int} (h : ¬ (0 ≤ k ∧ k ≤ 47)) : letAt k = 0 := by unfold letAt; rw [if_neg h]
theorem letAt_some {k : Nat} (h : k < 48) : letAt k = (lets[k]'(by rw [lets_size]; exact h)).toNat := by
  unfold letAt
  rw [if_pos (by omega)]
  have e : ((k : Int)).toNat = k := by omega
  rw [e, List.getD_eq_getElem?_getD, List.getElem?_eq_getElem (by show k < 48; exact h)]
  rfl
end Go.Proofs.Ytcddkcejjajlhaa


namespace Go.Proofs.Ytcddkcejjajlhaa
open Go.RowKit

theorem spec_letterat (k : Int) (w : World) : Calls Try.prog 95 #[.int .i64 k] w fun e w' => e = .returned (.int .u8 (letAt k)) ∧ w = w' := by
  by_cases h : 0 ≤ k ∧ k ≤ 47
  · obtain ⟨n, rfl⟩ : ∃ n : Nat, k = n := ⟨k.toNat, by omega⟩
    have hn : n < 48 := by omega
    have hb := Lib.hid (inB_true h.1 h.2)
    have hi := Lib.hid (in_any (n : Int) 0 47 w)
    obtain ⟨s, hs⟩ : ∃ s, lets = s := ⟨_, rfl⟩
    have ha := Lib.hid (lets_any w)
    have hA := Lib.hid (letAt_some hn)
    have hsz := lets_size
    rw [hs] at ha hsz
    have HS := Lib.hid hs
    have hlt : n < s.size := by omega
    clear h hs hsz
    go_enter Try.func95, Try.ntmps95
    go_wp2_with fail
    refine hi.out.mono ?_
    rintro e w' ⟨he, rfl⟩
    rw [hb.out] at he
    subst he
    go_wp2_with fail
    refine ha.out.mono ?_
    rintro e w' ⟨rfl, rfl⟩
    go_wp2_with fail
    go_ret
    refine ⟨?_, rfl⟩
    rw [hA.out]
    have := HS.out
    subst this
    rfl
  · rw [letAt_none h]
    have hb := Lib.hid (inB_false h)
    clear h
    go_enter Try.func95, Try.ntmps95
    go_wp2_with fail
    refine (in_any _ _ _ _).mono ?_
    rintro e w' ⟨he, rfl⟩
    rw [hb.out] at he
    subst he
    go_wp2_with fail
    go_ret
    exact ⟨rfl, rfl⟩

end Go.Proofs.Ytcddkcejjajlhaa


namespace Go.Proofs.Ytcddkcejjajlhaa
open Go.RowKit Go

theorem back_all : ∀ k : Nat, k < 48 → letOf (UInt8.ofNat (letAt (k : Int)).toNat) = (k : Int) ∧ 0 ≤ letAt (k : Int) ∧ letAt (k : Int) ≤ 255 := by decide +kernel
end Go.Proofs.Ytcddkcejjajlhaa


namespace Go.Proofs.Ytcddkcejjajlhaa
open Go.RowKit Go

def byteAt (k : Int) : UInt8 := UInt8.ofNat (letAt k).toNat
end Go.Proofs.Ytcddkcejjajlhaa


namespace Go.Proofs.Ytcddkcejjajlhaa
open Go.RowKit Go

def itC (k : Int) (nm : ByteArray) (n : Int) (hx : Bool) (r : Int) : Array Value := #[.int .i64 k, .string nm, .int .i32 n, .bool hx, .int .u32 r]
theorem itC_cells {w : World} {g : Nat} {t : TypeId} {k : Int} {nm : ByteArray} {n : Int} {hx : Bool} {r : Int} (h : Blk w g t (itC k nm n hx r)) :
    w.cell? ⟨g, 0, none⟩ = some (.int .i64 k) ∧ w.cell? ⟨g, 1, none⟩ = some (.string nm) ∧ w.cell? ⟨g, 2, none⟩ = some (.int .i32 n) ∧ w.cell? ⟨g, 3, none⟩ = some (.bool hx) ∧ w.cell? ⟨g, 4, none⟩ = some (.int .u32 r) ∧
    w.frozen? ⟨g, 0, none⟩ = false ∧ w.frozen? ⟨g, 1, none⟩ = false ∧ w.frozen? ⟨g, 2, none⟩ = false ∧ w.frozen? ⟨g, 3, none⟩ = false ∧ w.frozen? ⟨g, 4, none⟩ = false :=
  ⟨h.cell 0, h.cell 1, h.cell 2, h.cell 3, h.cell 4, h.frozen 0, h.frozen 1, h.frozen 2, h.frozen 3, h.frozen 4⟩

/-- An item is stored over another one. -/
theorem item_put {w : World} {g : Nat} {t : TypeId} {k0 : Int} {nm0 : ByteArray} {n0 : Int} {hx0 : Bool} {r0 : Int} (h : Blk w g t (itC k0 nm0 n0 hx0 r0)) (k : Int) (nm : ByteArray) (n : Int) (hx : Bool) (r : Int) :
    Blk (((((w.setCell ⟨g, 0, none⟩ (.int .i64 k)).setCell ⟨g, 1, none⟩ (.string nm)).setCell ⟨g, 2, none⟩ (.int .i32 n)).setCell ⟨g, 3, none⟩ (.bool hx)).setCell ⟨g, 4, none⟩ (.int .u32 r)) g t (itC k nm n hx r) :=
  ((((h.put 0 (.int .i64 k)).put 1 (.string nm)).put 2 (.int .i32 n)).put 3 (.bool hx)).put 4 (.int .u32 r)
end Go.Proofs.Ytcddkcejjajlhaa


namespace Go.Proofs.Ytcddkcejjajlhaa
open Go.RowKit Go

/-- An item is stored. -/
def putAll (w : World) (g : Nat) (k : Int) (nm : ByteArray) (n : Int) (hx : Bool) (r : Int) : World := ((((w.setCell ⟨g, 0, none⟩ (.int .i64 k)).setCell ⟨g, 1, none⟩ (.string nm)).setCell ⟨g, 2, none⟩ (.int .i32 n)).setCell ⟨g, 3, none⟩ (.bool hx)).setCell ⟨g, 4, none⟩ (.int .u32 r)
theorem putAll_blk {w : World} {g : Nat} {t : TypeId} {k0 : Int} {nm0 : ByteArray} {n0 : Int} {hx0 : Bool} {r0 : Int} (h : Blk w g t (itC k0 nm0 n0 hx0 r0)) (k : Int) (nm : ByteArray) (n : Int) (hx : Bool) (r : Int) : Blk (putAll w g k nm n hx r) g t (itC k nm n hx r) := item_put h k nm n hx r
end Go.Proofs.Ytcddkcejjajlhaa


namespace Go.Proofs.Ytcddkcejjajlhaa
open Go.RowKit

theorem and255 (y : Int) : 0 ≤ bits .and .i64 y 255 ∧ bits .and .i64 y 255 ≤ 255 := by
  have h : bits .and .i64 y 255 = IntKind.i64.wrap ((BitVec.ofInt 64 y &&& BitVec.ofInt 64 255).toNat : Int) := rfl
  have hle : (BitVec.ofInt 64 y &&& BitVec.ofInt 64 255).toNat ≤ 255 := by
    rw [BitVec.toNat_and]
    exact Nat.le_trans Nat.and_le_right (by decide)
  rw [h, IntKind.wrap_i64]
  omega

/-- What comes of a step of the cursor: a byte; only block g has changed. -/
def Drew (g : Nat) (w : World) (lo hi : Int) (e : Ending) (w' : World) : Prop := ∃ x : Int, e = .returned (.int .i64 x) ∧ (lo ≤ x ∧ x ≤ hi) ∧ CurAt w' g ∧ w.grownBy w' (some g)

set_option maxRecDepth 100000 in
set_option maxHeartbeats 2000000 in
theorem byte_any (g : Nat) (w : World) (hc : CurAt w g) : Calls Try.prog 80 #[.pointer (some ⟨g, 0, none⟩)] w (Drew g w 0 255) := by
  obtain ⟨A, len, cap, i, h, hb, hi, hcode⟩ := hc
  have c0 := hb.cell 0
  have c1 := hb.cell 1
  have c2 := hb.cell 2
  have f1 := hb.frozen 1
  have f2 := hb.frozen 2
  simp at c0 c1 c2
  have HB := Lib.hid hb
  have HC := Lib.hid hcode
  clear hb hcode
  go_enter Try.func80, Try.ntmps80
  go_wp2
  obtain ⟨h2, hh⟩ : ∃ h2, wrap64 (wrap64 (h * 6364136223846793005) + 1442695040888963407) = h2 := ⟨_, rfl⟩
  rw [hh]
  have hb1 := HB.out.put 2 (.int .i64 h2)
  have hg1 : w.grownBy (w.setCell ⟨g, 2, none⟩ (.int .i64 h2)) (some g) := only_setCell (World.grownBy.refl w _) (.inl rfl) _
  have hcd1 : CodeOk (w.setCell ⟨g, 2, none⟩ (.int .i64 h2)) g A len := HC.out.keep fun p hp => World.cell?_setCell_other w ⟨g, 2, none⟩ p _ (fun e => by subst e; simp at hp)
  obtain ⟨W1, hW⟩ : ∃ W1, w.setCell ⟨g, 2, none⟩ (.int .i64 h2) = W1 := ⟨_, rfl⟩
  rw [hW] at hb1 hg1 hcd1 ⊢
  clear hW hh c0 c1 c2 f1 f2 HB HC
  simp at hb1
  have c0 := hb1.cell 0
  have c1 := hb1.cell 1
  have c2 := hb1.cell 2
  have f1 := hb1.frozen 1
  simp at c0 c1 c2
  have HB := Lib.hid hb1
  have HG := Lib.hid hg1
  have HC := Lib.hid hcd1
  clear hb1 hg1 hcd1
  go_quiet (fail)
  go_wp2
  have hx := and255 (bits BinOp.xor IntKind.i64 (h2 / 8589934592) (h2 / 35184372088832))
  obtain ⟨x0, hx0⟩ : ∃ x0, bits BinOp.and IntKind.i64 (bits BinOp.xor IntKind.i64 (h2 / 8589934592) (h2 / 35184372088832)) 255 = x0 := ⟨_, rfl⟩
  rw [hx0] at hx ⊢
  clear hx0
  obtain ⟨hx0, hx1⟩ := hx
  by_cases hlt : i < len
  · have hlt' : (i : Int) < (len : Int) := by omega
    have hlen := HC.out.1
    obtain ⟨ad, z, hA, hadb, hz0, hz1, hz⟩ := HC.out.2 i hlt
    subst hA
    go_quiet (fail)
    go_wp2
    go_quiet (fail)
    go_wp2
    have hy := and255 (x0 + z)
    go_ret
    have hb2 : ∀ m, Blk ((W1.drewN m).setCell ⟨g, 1, none⟩ (.int .i64 ((i : Int) + 1))) g 89 #[.slice (some ad) len cap, .int .i64 ((i : Int) + 1), .int .i64 h2] := fun m => by
      have h := Blk.put (w := W1.drewN m) HB.out 1 (.int .i64 ((i : Int) + 1))
      simpa using h
    exact ⟨_, rfl, hy, ⟨some ad, len, cap, i + 1, h2, hb2 _, by omega, HC.out.keep fun p hp => World.cell?_setCell_other (W1.drewN _) ⟨g, 1, none⟩ p _ (fun e => by subst e; simp at hp)⟩, only_setCell (only_drewN HG.out _) (.inl rfl) _⟩
  · have hlt' : (len : Int) ≤ (i : Int) := by omega
    go_quiet (fail)
    go_wp2
    go_ret
    exact ⟨x0, rfl, ⟨hx0, hx1⟩, ⟨A, len, cap, i, h2, HB.out, hi, HC.out⟩, only_drewN (only_drewN HG.out _) _⟩

/-- A number of 0 .. n-1 is drawn; 0 where n is not above 0. -/
theorem below_any (g : Nat) (n : Int) (h0 : -9223372036854775808 ≤ n) (h1 : n ≤ 9223372036854775807) (w : World) (hc : CurAt w g) : Calls Try.prog 64 #[.pointer (some ⟨g, 0, none⟩), .int .i64 n] w (Drew g w 0 (if n ≤ 0 then 0 else n - 1)) := by
  have HC := Lib.hid hc
  clear hc
  by_cases hn : n ≤ 0
  · rw [if_pos hn]
    have HN := Lib.hid hn
    go_enter Try.func64, Try.ntmps64
    go_wp2
    go_ret
    exact ⟨0, rfl, ⟨by omega, by omega⟩, HC.out, World.grownBy.refl _ _⟩
  · rw [if_neg hn]
    by_cases h256 : n ≤ 256
    · have hn' : 0 < n := by omega
      clear hn
      go_enter Try.func64, Try.ntmps64
      go_wp2_with (go_at_call 80; refine (byte_any g _ HC.out).mono ?_; rintro e w' ⟨x, rfl, ⟨hx0, hx1⟩, hc2, hg2⟩)
      go_ret
      exact ⟨_, rfl, ⟨Int.emod_nonneg _ (by omega), by have := Int.emod_lt_of_pos x hn'; omega⟩, hc2, hg2⟩
    · have hn' : 256 < n := by omega
      clear hn h256
      go_enter Try.func64, Try.ntmps64
      go_wp2_with fail
      refine (byte_any g _ HC.out).mono ?_
      rintro e w1 ⟨x1, rfl, ⟨hx10, hx11⟩, hc1, hg1⟩
      go_wp2_with fail
      refine (byte_any g _ hc1).mono ?_
      rintro e w2 ⟨x2, rfl, ⟨hx20, hx21⟩, hc2, hg2⟩
      go_wp2_with fail
      refine (byte_any g _ hc2).mono ?_
      rintro e w3 ⟨x3, rfl, ⟨hx30, hx31⟩, hc3, hg3⟩
      go_wp2_with fail
      refine (byte_any g _ hc3).mono ?_
      rintro e w4 ⟨x4, rfl, ⟨hx40, hx41⟩, hc4, hg4⟩
      go_wp2_with fail
      go_ret
      exact ⟨_, rfl, ⟨Int.emod_nonneg _ (by omega), by have := Int.emod_lt_of_pos (x1 * 16777216 + x2 * 65536 + x3 * 256 + x4) (show 0 < n by omega); omega⟩, hc4, only_trans (only_trans (only_trans hg1 hg2) hg3) hg4⟩
end Go.Proofs.Ytcddkcejjajlhaa

namespace Go.Proofs.Ytcddkcejjajlhaa
open Go.RowKit

/-- What comes of making a cursor: a pointer to a block of the call's own. -/
def Made (w : World) (e : Ending) (w' : World) : Prop := ∃ g : Nat, e = .returned (.pointer (some ⟨g, 0, none⟩)) ∧ w.heap.size ≤ g ∧ CurAt w' g ∧ Below w.heap.size w w'

set_option maxHeartbeats 1000000 in
theorem new_any (A : Option Addr) (len cap : Nat) (w : World) (hcode : CodeOk w w.heap.size A len) : Calls Try.prog 57 #[.slice A len cap] w (Made w) := by
  have hlen := hcode.1
  have HC := Lib.hid hcode
  clear hcode
  go_enter Try.func57, Try.ntmps57
  go_wp2
  go_loop [3, 4] (fun h i => ∃ (k : Nat) (x : Int), k ≤ len ∧ i = .int .i64 k ∧ h = .int .i64 x) (fun _ i => len - (intOf i).toNat)
  case atStart => exact ⟨0, _, by omega, rfl, rfl⟩
  case round =>
    obtain ⟨k, x, hk, rfl, rfl⟩ := hrel
    by_cases hks : k < len
    · obtain ⟨ad, z, hA, hadb, hz0, hz1, hz⟩ := HC.out.2 k hks
      subst hA
      by_cases h4 : k < 4000
      · have h4' : decide ((k : Int) < 4000) = true := by simp; omega
        go_wp2
        go_round
        case rel => exact ⟨k + 1, _, by omega, by go_num, rfl⟩
        case measure => simp [intOf]; omega
      · have h4' : decide ((k : Int) < 4000) = false := by simp; omega
        go_wp2
        go_ret
        exact ⟨w.heap.size, rfl, Nat.le_refl _, ⟨some ad, len, cap, 0, _, Blk.new _ _ _, by omega, HC.out.below ((Below.refl _ _).alloc (Nat.le_refl _) _)⟩, (Below.refl _ _).alloc (Nat.le_refl _) _⟩
    · have hks' : decide ((k : Int) < (len : Int)) = false := by simp; omega
      go_wp2
      go_ret
      exact ⟨w.heap.size, rfl, Nat.le_refl _, ⟨A, len, cap, 0, _, Blk.new _ _ _, by omega, HC.out.below ((Below.refl _ _).alloc (Nat.le_refl _) _)⟩, (Below.refl _ _).alloc (Nat.le_refl _) _⟩
end Go.Proofs.Ytcddkcejjajlhaa

namespace Go.Proofs.Ytcddkcejjajlhaa
open Go.RowKit

/-- A block of numbers. -/
def IntsAt (w : World) (b : Nat) (zs : List Int) : Prop := ∀ j (h : j < zs.length), w.cell? ⟨b, j, none⟩ = some (.int .i64 zs[j])
theorem ints_new (w : World) (t : TypeId) (zs : List Int) : IntsAt (w.alloc (.cells (zs.map (Value.int .i64)).toArray t)) w.heap.size zs := fun j h => by
  rw [(Blk.new w t _).cell]
  simp [h]
def Picked (g : Nat) (w : World) (zs : List Int) (e : Ending) (w' : World) : Prop := ∃ x : Int, e = .returned (.int .i64 x) ∧ x ∈ zs ∧ CurAt w' g ∧ w.grownBy w' (some g)
theorem pickint_any (g b : Nat) (zs : List Int) (w : World) (hc : CurAt w g) (hl : IntsAt w b zs) (hb : b ≠ g) (hblt : b < w.heap.size) (hn : 1 ≤ zs.length) (hn2 : zs.length ≤ 1000) :
    Calls Try.prog 84 #[.pointer (some ⟨g, 0, none⟩), .slice (some ⟨b, 0, none⟩) zs.length zs.length] w (Picked g w zs) := by
  have HC := Lib.hid (below_any g (zs.length : Int) (by omega) (by omega) w hc)
  have HL := Lib.hid hl
  have HN := Lib.hid hb
  clear hc hl hb
  go_enter Try.func84, Try.ntmps84
  go_wp2_with fail
  refine HC.out.mono ?_
  rintro e w1 ⟨x, rfl, ⟨hx0, hx1⟩, hc1, hg1⟩
  rw [if_neg (by omega)] at hx1
  obtain ⟨j, rfl⟩ : ∃ j : Nat, x = j := ⟨x.toNat, by omega⟩
  have hj : j < zs.length := by omega
  have hcell : w1.cell? ⟨b, j, none⟩ = some (.int .i64 zs[j]) := (World.cell?_of_block (hg1.block b hblt (fun e => HN.out (by injection e)))).trans (HL.out j hj)
  have HG := Lib.hid hg1
  go_wp2_with fail
  go_ret
  exact ⟨zs[j], rfl, List.getElem_mem _, hc1, HG.out⟩

def DrewWord (g : Nat) (w : World) (e : Ending) (w' : World) : Prop := ∃ x : Nat, e = .returned (.int .u32 x) ∧ x < 4294967296 ∧ CurAt w' g ∧ w.grownBy w' (some g)
theorem u32_nat (x : Int) : ∃ n : Nat, IntKind.u32.wrap x = (n : Int) ∧ n < 4294967296 := ⟨(x % 4294967296).toNat, by rw [IntKind.wrap_u32]; omega, by omega⟩

theorem ret_u32 {a b : Int} (h : a = b) : Ending.returned (.int .u32 a) = .returned (.int .u32 b) := by rw [h]
set_option maxHeartbeats 2000000 in
theorem word_any (g : Nat) (w : World) (hc : CurAt w g) : Calls Try.prog 83 #[.pointer (some ⟨g, 0, none⟩)] w (DrewWord g w) := by
  have hglt : g < w.heap.size := by obtain ⟨_, _, _, _, _, hb, _⟩ := hc; exact hb.lt
  have HC := Lib.hid (below_any g 4 (by omega) (by omega) w hc)
  clear hc
  go_enter Try.func83, Try.ntmps83
  go_wp2_with fail
  refine HC.out.mono ?_
  rintro e w1 ⟨x, rfl, ⟨hx0, hx1⟩, hc1, hg1⟩
  have hglt1 : g < w1.heap.size := by have := hg1.size; omega
  have HG := Lib.hid hg1
  clear hg1
  by_cases h0 : x = 0
  · have h0' : (x == 0) = true := by simpa using h0
    clear h0
    go_wp2_with fail
    refine (pickint_any g w1.heap.size [0, 1, 2, 31, 32, 255, 256, 2147483647, 2147483648, 4294967295, 4294967294] _ (hc1.grown (World.grownBy_alloc w1 _ none) (fun _ h => by cases h)) (ints_new w1 3 [0, 1, 2, 31, 32, 255, 256, 2147483647, 2147483648, 4294967295, 4294967294]) (by omega) (by simp) (by decide) (by decide)).mono ?_
    rintro e w2 ⟨y, rfl, -, hc2, hg2⟩
    obtain ⟨n, hn, hnb⟩ := u32_nat y
    have HG2 := Lib.hid hg2
    have HNB := Lib.hid hnb
    clear hg2 hnb
    go_wp2_with fail
    go_ret
    exact ⟨n, rfl, HNB.out, hc2, only_trans (only_alloc HG.out _) HG2.out⟩
  · have h0' : (x == 0) = false := by simpa using h0
    by_cases h1 : x = 1
    · have h1' : (x == 1) = true := by simpa using h1
      clear h0 h1
      go_wp2_with fail
      refine (below_any g 300 (by omega) (by omega) _ hc1).mono ?_
      rintro e w2 ⟨y, rfl, ⟨hy0, hy1⟩, hc2, hg2⟩
      have hy2 : y ≤ 299 := by simpa using hy1
      obtain ⟨n, rfl⟩ : ∃ n : Nat, y = n := ⟨y.toNat, by omega⟩
      have HG2 := Lib.hid hg2
      clear hg2 hy1
      go_wp2_with fail
      go_ret
      exact ⟨n, rfl, by omega, hc2, only_trans HG.out HG2.out⟩
    · have h1' : (x == 1) = false := by simpa using h1
      clear h0 h1
      go_wp2_with fail
      refine (below_any g 65536 (by omega) (by omega) _ hc1).mono ?_
      rintro e w2 ⟨y, rfl, ⟨hy0, hy1⟩, hc2, hg2⟩
      have hy2 : y ≤ 65535 := by simpa using hy1
      have HG2 := Lib.hid hg2
      clear hg2 hy1
      go_wp2_with fail
      refine (below_any g 65536 (by omega) (by omega) _ hc2).mono ?_
      rintro e w3 ⟨z, rfl, ⟨hz0, hz1⟩, hc3, hg3⟩
      have hz2 : z ≤ 65535 := by simpa using hz1
      have HG3 := Lib.hid hg3
      clear hg3 hz1
      go_wp2_with fail
      go_ret
      exact ⟨(y * 65536 + z).toNat, ret_u32 (by omega), by omega, hc3, only_trans (only_trans HG.out HG2.out) HG3.out⟩
end Go.Proofs.Ytcddkcejjajlhaa

namespace Go.Proofs.Ytcddkcejjajlhaa
open Go.RowKit

/-- A block of texts. -/
def StrsAt (w : World) (b : Nat) (zs : List ByteArray) : Prop := ∀ j (h : j < zs.length), w.cell? ⟨b, j, none⟩ = some (.string zs[j])
theorem strs_new (w : World) (t : TypeId) (zs : List ByteArray) : StrsAt (w.alloc (.cells (zs.map Value.string).toArray t)) w.heap.size zs := fun j h => by
  rw [(Blk.new w t _).cell]
  simp [h]
def PickedS (g : Nat) (w : World) (zs : List ByteArray) (e : Ending) (w' : World) : Prop := ∃ x : ByteArray, e = .returned (.string x) ∧ x ∈ zs ∧ CurAt w' g ∧ w.grownBy w' (some g)
theorem pick_any (g b : Nat) (zs : List ByteArray) (w : World) (hc : CurAt w g) (hl : StrsAt w b zs) (hb : b ≠ g) (hblt : b < w.heap.size) (hn : 1 ≤ zs.length) (hn2 : zs.length ≤ 1000) :
    Calls Try.prog 91 #[.pointer (some ⟨g, 0, none⟩), .slice (some ⟨b, 0, none⟩) zs.length zs.length] w (PickedS g w zs) := by
  have HC := Lib.hid (below_any g (zs.length : Int) (by omega) (by omega) w hc)
  have HL := Lib.hid hl
  have HN := Lib.hid hb
  clear hc hl hb
  go_enter Try.func91, Try.ntmps91
  go_wp2_with fail
  refine HC.out.mono ?_
  rintro e w1 ⟨x, rfl, ⟨hx0, hx1⟩, hc1, hg1⟩
  rw [if_neg (by omega)] at hx1
  obtain ⟨j, rfl⟩ : ∃ j : Nat, x = j := ⟨x.toNat, by omega⟩
  have hj : j < zs.length := by omega
  have hcell : w1.cell? ⟨b, j, none⟩ = some (.string zs[j]) := (World.cell?_of_block (hg1.block b hblt (fun e => HN.out (by injection e)))).trans (HL.out j hj)
  have HG := Lib.hid hg1
  go_wp2_with fail
  go_ret
  exact ⟨zs[j], rfl, List.getElem_mem _, hc1, HG.out⟩
end Go.Proofs.Ytcddkcejjajlhaa

namespace Go.Proofs.Ytcddkcejjajlhaa
open Go.RowKit Go

def u8v (c : UInt8) : Value := .int .u8 (c.toNat : Int)
theorem infoU8 : (Try.prog.info? 5).map (fun i => (i.zero, i.size, i.bytes)) = some (some (.int .u8 0), 1, 1) := by kernel_rfl
/-- 'string(b)' of bytes of the call's own. -/
theorem own_string {P : Program} {w : World} {base : Nat} {src dst e : TypeId} {v : Value} {l : List UInt8} (hs : P.underlying src = some (.slice e)) (he : P.underlying e = some (.int .u8)) (hd : P.underlying dst = some .string)
    (h : w.ownsRow base e 1 v l.length (l.map u8v)) : (convert src dst v).run P w = .ok (.string ⟨l.toArray⟩) w := by
  rcases h.2 with ⟨rfl, h0⟩ | ⟨g, cap, cur, rfl, hb, hg, hn, hm, hsz, ht⟩
  · have hl : l = [] := List.eq_nil_of_length_eq_zero h0
    subst hl
    exact run_convert_bytes_nil w src e hs he 0 0 dst hd
  · refine run_convert_bytes_back w src dst e _ _ l hs he hd fun j hj => ?_
    rw [addr_lit, Nat.zero_add, cell_of_row w g j cur e (0, 0) hg]
    have h1 := congrArg (·[j]?) ht
    simpa [List.getElem?_take, hj, u8v] using h1
theorem byteAt_int {k : Nat} (h : k < 48) : letAt (k : Int) = ((byteAt (k : Int)).toNat : Int) := by
  obtain ⟨_, h2, h3⟩ := back_all k h
  unfold byteAt
  rw [UInt8.toNat_ofNat_of_lt' (by show _ < 256; omega)]
  omega
end Go.Proofs.Ytcddkcejjajlhaa

namespace Go.Proofs.Ytcddkcejjajlhaa
open Go.RowKit Go

theorem once_any (g : Nat) (n : Nat) (h1 : n ≤ 1000) (w : World) (hc : CurAt w g) : Calls Try.prog 85 #[.pointer (some ⟨g, 0, none⟩), .int .i64 (n : Int)] w fun e w' => ∃ b : Bool, e = .returned (.bool b) ∧ CurAt w' g ∧ w.grownBy w' (some g) := by
  have HC := Lib.hid (below_any g (n : Int) (by omega) (by omega) w hc)
  clear hc
  go_enter Try.func85, Try.ntmps85
  go_wp2_with fail
  refine HC.out.mono ?_
  rintro e w1 ⟨x, rfl, -, hc1, hg1⟩
  have HG := Lib.hid hg1
  have HC1 := Lib.hid hc1
  clear hg1 hc1
  go_wp2_with fail
  go_ret
  exact ⟨_, rfl, HC1.out, HG.out⟩
theorem cur_lt {w : World} {g : Nat} (h : CurAt w g) : g < w.heap.size := by
  obtain ⟨_, _, _, _, _, hb, _⟩ := h
  exact hb.lt
theorem only_app {w wr w1 : World} {g : Nat} {row : Option Nat} (h : w.grownBy wr (some g)) (hg : wr.grownBy w1 row) (hr : ∀ k, row = some k → w.heap.size ≤ k) : w.grownBy w1 (some g) :=
  ⟨hg.os.trans h.os, hg.tape.trans h.tape, hg.output.trans h.output, Nat.le_trans h.size hg.size, fun i hi hne => (hg.block i (Nat.lt_of_lt_of_le hi h.size) (fun e => by have := hr i e.symm; omega)).trans (h.block i hi hne)⟩
theorem own_ne {w : World} {base : Nat} {e : TypeId} {size : Nat} {v : Value} {n : Nat} {xs : List Value} {g : Nat} (h : w.ownsRow base e size v n xs) (hg : g < base) : v.ownBlock = none ∨ v.ownBlock ≠ some g :=
  .inr (fun e => by have := own_lt h g e; omega)
/-- A name is drawn, of at most nine bytes. -/
def NamedS (g : Nat) (w : World) (e : Ending) (w' : World) : Prop := ∃ s : ByteArray, e = .returned (.string s) ∧ s.size ≤ 9 ∧ CurAt w' g ∧ w.grownBy w' (some g)
def drawnNames : List ByteArray := [⟨#[100, 117, 112]⟩, ⟨#[111, 118, 101, 114]⟩, ⟨#[115, 113, 117, 97, 114, 101]⟩, ⟨#[97, 33]⟩, ⟨#[50, 42]⟩, ⟨#[103, 111]⟩, ⟨#[45, 105, 102]⟩, ⟨#[59]⟩, ⟨#[63]⟩, ⟨#[114, 114, 114, 114, 114, 114, 114]⟩, ⟨#[114, 116, 111, 101, 97, 110, 105]⟩, ⟨#[119, 119, 119, 119, 119, 119]⟩, ⟨#[113, 113, 113, 113, 113]⟩, ⟨#[120]⟩]
theorem drawnNames_size : ∀ x ∈ drawnNames, x.size ≤ 9 := by decide

set_option maxRecDepth 100000 in
set_option maxHeartbeats 2000000 in
theorem name_any (g : Nat) (w : World) (hc : CurAt w g) : Calls Try.prog 92 #[.pointer (some ⟨g, 0, none⟩)] w (NamedS g w) := by
  obtain ⟨i0, hinf, hz0, hz1, hz2⟩ := info_parts infoU8
  have HO := Lib.hid (once_any g 2 (by decide) w hc)
  have hgl := cur_lt hc
  clear hc
  go_enter Try.func92, Try.ntmps92
  go_wp2_with fail
  refine HO.out.mono ?_
  rintro e w1 ⟨b, rfl, hc1, hg1⟩
  have HC1 := Lib.hid hc1
  have HG1 := Lib.hid hg1
  have hs1 := hg1.size
  clear hc1 hg1 HO
  cases b with
  | true =>
    have PK := pick_any g w1.heap.size drawnNames _ (HC1.out.grown (World.grownBy_alloc w1 _ none) (fun _ h => by cases h)) (strs_new w1 9 drawnNames) (by omega) (by simp) (by decide) (by decide)
    have HPK := Lib.hid PK
    clear PK
    go_wp2_with fail
    refine HPK.out.mono ?_
    rintro e w2 ⟨x, rfl, hx, hc2, hg2⟩
    have hx9 := drawnNames_size x hx
    have HC2 := Lib.hid hc2
    have HG2 := Lib.hid (only_trans (only_alloc HG1.out _) hg2)
    clear hx hc2 hg2
    go_wp2_with fail
    go_ret
    exact ⟨x, rfl, hx9, HC2.out, HG2.out⟩
  | false =>
    have HB := Lib.hid (below_any g 9 (by omega) (by omega) _ (HC1.out.grown (World.grownBy_alloc w1 (.cells #[] 5) none) (fun _ h => by cases h)))
    have HE := Lib.hid (own_empty w1 5)
    go_wp2_with fail
    refine HB.out.mono ?_
    rintro e w2 ⟨y, rfl, ⟨hy0, hy1⟩, hc2, hg2⟩
    have hy2 : y ≤ 8 := by simpa using hy1
    have hO2 := HE.out.kept hg2 (own_ne HE.out (by omega))
    have hG2 := only_trans (only_alloc HG1.out (.cells #[] 5)) hg2
    have HO2 := Lib.hid hO2
    have HG2 := Lib.hid hG2
    have HC2 := Lib.hid hc2
    clear hy1 hc2 hg2 hO2 hG2 HB HE
    go_wp2_with fail
    go_loopw [3, 5] (fun vo vi wr => ∃ (i : Nat) (l : List UInt8), vi = .int .i64 i ∧ l.length = i ∧ (i : Int) ≤ 1 + y ∧ wr.ownsRow w1.heap.size 5 1 vo l.length (l.map u8v) ∧ Hid (CurAt wr g ∧ w.grownBy wr (some g) ∧ w1.heap.size ≤ wr.heap.size)) (fun _ vi _ => (1 + y).toNat - (intOf vi).toNat)
    case atStart => exact ⟨0, [], rfl, rfl, by omega, HO2.out, Lib.hid ⟨HC2.out, HG2.out, by
      have h1 := hs1
      have h2 := (HO2.out.2)
      rcases h2 with ⟨h3, _⟩ | ⟨k, _, _, h3, h4, h5, _⟩
      · cases h3
      · have := (Array.getElem?_eq_some_iff.1 h5).1; omega⟩⟩
    case round =>
      obtain ⟨i, l, rfl, hl, hi, hown, HW⟩ := hrel
      obtain ⟨hcr, hgr, hsr⟩ := HW.out
      by_cases hp : (i : Int) < 1 + y
      · have HB := Lib.hid (below_any g 47 (by omega) (by omega) _ hcr)
        clear hcr hgr
        go_wp2_with fail
        refine HB.out.mono ?_
        rintro e w3 ⟨k, rfl, ⟨hk0, hk1⟩, hc3, hg3⟩
        have hk2 : k ≤ 46 := by simpa using hk1
        obtain ⟨m, rfl⟩ : ∃ m : Nat, k = m := ⟨k.toNat, by omega⟩
        have hO3 := hown.kept hg3 (own_ne hown (by omega))
        have HL : Hid (∀ W, Calls Try.prog 95 #[.int .i64 (1 + (m : Int))] W fun e w' => e = .returned (.int .u8 ((byteAt ((1 + m : Nat) : Int)).toNat : Int)) ∧ W = w') := Lib.hid fun W => by
          rw [← byteAt_int (k := 1 + m) (by omega)]
          have e : ((1 + m : Nat) : Int) = 1 + (m : Int) := by omega
          rw [e]
          exact spec_letterat _ W
        obtain ⟨c, hcc⟩ : ∃ c, byteAt ((1 + m : Nat) : Int) = c := ⟨_, rfl⟩
        rw [hcc] at HL
        have hs3 := hg3.size
        have HC3 := Lib.hid hc3
        have HG3 := Lib.hid (only_trans HW.out.2.1 hg3)
        clear hcc hk1 hc3 hg3 hown HB HW
        go_wp2_with fail
        refine (HL.out _).mono ?_
        rintro e w' ⟨rfl, rfl⟩
        go_wp2_with (at_builtin; refine wpList_append_own _ rfl _ _ 22 rfl w1.heap.size 5 i0 (.int .u8 0) 1 1 Try.underlying22 hinf hz0 hz1 hz2 rfl (by decide) _ _ _ rfl (hO3.alloc _) ⟨w3.heap.size, 0, none⟩ 1 1 [.int .u8 (c.toNat : Int)] rfl rfl (cell_one_new _ _ _) (by simp [Value.oneCell']) (by unfold maxLen; omega) (by omega) (by simp; omega) ?_; intro v' w4 hown' hgrow _)
        have hgs := hgrow.size
        have hal : w3.heap.size ≤ (w3.alloc (.cells #[.int .u8 (c.toNat : Int)] 5)).heap.size := by simp
        go_roundw
        case rel => exact ⟨i + 1, l ++ [c], by go_num, by simp [hl], by omega, by simpa [u8v] using hown', Lib.hid ⟨(HC3.out.grown (World.grownBy_alloc w3 _ none) (fun _ h => by cases h)).grown hgrow (fun k hk => by have := own_lt hO3 k hk; omega), only_app (only_alloc HG3.out _) hgrow (fun k hk => by have := own_lt hO3 k hk; omega), by omega⟩⟩
        case measure => simp [intOf]; omega
      · have hstr := own_string (P := Try.prog) (src := 22) (dst := 9) Try.underlying22 Try.underlying5 Try.underlying9 hown
        clear hown hcr hgr
        go_wp2_with fail
        go_ret
        exact ⟨_, rfl, by show l.length ≤ 9; omega, HW.out.1, HW.out.2.1⟩
end Go.Proofs.Ytcddkcejjajlhaa

namespace Go.Proofs.Ytcddkcejjajlhaa
open Go.ChangeShapes Go.WideShapes Go.ChangeAt Go.RowKit

theorem lt_of_cell_any {w : World} {a : Addr} {v : Value} (h : w.cell? a = some v) : a.block < w.heap.size := by
  rcases Nat.lt_or_ge a.block w.heap.size with hl | hl
  · exact hl
  · have e : w.heap[a.block]? = none := Array.getElem?_eq_none hl
    simp [World.cell?, e] at h
theorem code_of {H : Type} {enc : TypeId × Value → H} {P : Program} {W : World} {t e : TypeId} {A : Option Addr} {len cap : Nat} {d : DataW H} {p : List MemPlace}
    (ht : P.underlying t = some (.slice e)) (he : P.underlying e = some (.int .u8)) (hc : P.cellsOf e = 1) (h : DataW.Trod enc P W 0 (fun _ => true) true t (.slice A len cap) d p) : CodeOk W W.heap.size A len := by
  obtain ⟨fuel, hf⟩ := h
  rcases open_ints ht he hc hf with ⟨hcs, -⟩ | ⟨a, len', cap', zs, hcs, -, hl, hm, hz, -, hcell, hwz⟩
  · have hcs' : (Value.slice A len cap) = .slice none 0 0 := by simpa [Value.cells] using hcs
    injection hcs' with h1 h2 h3
    subst h1 h2 h3
    exact ⟨by omega, fun j hj => by omega⟩
  · have hcs' : (Value.slice A len cap) = .slice (some a) len' cap' := by simpa [Value.cells] using hcs
    injection hcs' with h1 h2 h3
    subst h1 h2 h3
    unfold maxLen at hm
    simp at hz
    refine ⟨by omega, fun j hj => ?_⟩
    have h1 := hcell j (by omega)
    have h2 := lt_of_cell_any h1
    rw [addr_add_block] at h2
    have hmem : zs.getD j 0 ∈ zs := by
      have e : zs.getD j 0 = zs[j]'(by omega) := by simp [List.getD, List.getElem?_eq_getElem (show j < zs.length by omega)]
      rw [e]
      exact List.getElem_mem _
    have hw := hwz _ hmem
    have hb : 0 ≤ zs.getD j 0 ∧ zs.getD j 0 ≤ 255 := by
      simpa [Lit.wf, IntKind.min, IntKind.max, IntKind.signed, IntKind.bits] using hw
    exact ⟨a, zs.getD j 0, rfl, h2, hb.1, hb.2, h1⟩
end Go.Proofs.Ytcddkcejjajlhaa

namespace Go.Proofs.Ytcddkcejjajlhaa
open Go.RowKit Go

theorem big_any (A : Option Addr) (len cap : Nat) (w : World) : Calls Try.prog 15 #[.slice A len cap] w fun e w' => e = .returned (.bool (decide (1048576 < (len : Int)))) ∧ w = w' := by
  go_enter Try.func15, Try.ntmps15
  go_wp2
  go_ret
  exact ⟨rfl, rfl⟩
/-- A byte of the code, or a number that follows from its length. -/
def AByte (w : World) (e : Ending) (w' : World) : Prop := ∃ x : Nat, e = .returned (.int .i64 x) ∧ x ≤ 255 ∧ w = w'
theorem at_any (A : Option Addr) (len cap i : Nat) (hi : i ≤ 1000) (w : World) (hcode : CodeOk w w.heap.size A len) : Calls Try.prog 21 #[.slice A len cap, .int .i64 i] w (AByte w) := by
  have hlen := hcode.1
  have HC := Lib.hid hcode
  clear hcode
  by_cases h : i < len
  · obtain ⟨ad, z, hA, hadb, hz0, hz1, hz⟩ := HC.out.2 i h
    subst hA
    obtain ⟨x, rfl⟩ : ∃ x : Nat, z = x := ⟨z.toNat, by omega⟩
    go_enter Try.func21, Try.ntmps21
    go_wp2
    go_ret
    exact ⟨x, rfl, by omega, rfl⟩
  · have h' : decide ((i : Int) < (len : Int)) = false := by simp; omega
    have h2 : (len : Int) ≤ (i : Int) := by omega
    clear h
    go_enter Try.func21, Try.ntmps21
    go_wp2
    go_ret
    refine ⟨(i * 7 + len) % 256, ?_, by omega, rfl⟩
    simp
end Go.Proofs.Ytcddkcejjajlhaa


namespace Go.Proofs.Ytcddkcejjajlhaa
open Go.RowKit Go

/-- A number of 32 bits with a sign is drawn. -/
def DrewI (g : Nat) (w : World) (e : Ending) (w' : World) : Prop := ∃ z : Int, e = .returned (.int .i32 z) ∧ (-2147483648 ≤ z ∧ z ≤ 2147483647) ∧ CurAt w' g ∧ w.grownBy w' (some g)
theorem i32_rng (x : Int) : -2147483648 ≤ wrap32 x ∧ wrap32 x ≤ 2147483647 := by unfold wrap32; omega
theorem drewi (g : Nat) (w w' : World) (z : Int) (h : -2147483648 ≤ z ∧ z ≤ 2147483647) (hc : CurAt w' g) (hg : w.grownBy w' (some g)) : DrewI g w (.returned (.int .i32 z)) w' := ⟨z, rfl, h, hc, hg⟩

set_option maxHeartbeats 2000000 in
theorem drawint_any (g : Nat) (w : World) (hc : CurAt w g) : Calls Try.prog 90 #[.pointer (some ⟨g, 0, none⟩)] w (DrewI g w) := by
  have hgl := cur_lt hc
  have HO := Lib.hid (once_any g 2 (by decide) w hc)
  clear hc
  go_enter Try.func90, Try.ntmps90
  go_wp2_with fail
  refine HO.out.mono ?_
  rintro e w1 ⟨b, rfl, hc1, hg1⟩
  have hgl1 : g < w1.heap.size := by have := hg1.size; omega
  have HG1 := Lib.hid hg1
  have HC1 := Lib.hid hc1
  clear hg1 hc1 HO
  cases b with
  | true =>
    have HB := Lib.hid (below_any g 200 (by omega) (by omega) w1 HC1.out)
    go_wp2_with fail
    refine HB.out.mono ?_
    rintro e w2 ⟨y, rfl, ⟨hy0, hy1⟩, hc2, hg2⟩
    have hy2 : y ≤ 199 := by simpa using hy1
    have HG2 := Lib.hid (only_trans HG1.out hg2)
    have HC2 := Lib.hid hc2
    clear hg2 hc2 hy1 HB
    go_wp2_with fail
    go_ret
    exact drewi g w w2 _ (by first | exact i32_rng _ | omega) HC2.out HG2.out
  | false =>
    have HP := Lib.hid (pickint_any g w1.heap.size [0, 67108863, 67108864, -67108864, -67108865, 2147483647, -2147483648, 1000000, -1] _ (HC1.out.grown (World.grownBy_alloc w1 _ none) (fun _ h => by cases h)) (ints_new w1 3 [0, 67108863, 67108864, -67108864, -67108865, 2147483647, -2147483648, 1000000, -1]) (by omega) (by simp) (by decide) (by decide))
    go_wp2_with fail
    refine HP.out.mono ?_
    rintro e w2 ⟨y, rfl, hy, hc2, hg2⟩
    have HG2 := Lib.hid (only_trans (only_alloc HG1.out _) hg2)
    have HC2 := Lib.hid hc2
    clear hg2 hc2 hy HP
    go_wp2_with fail
    go_ret
    exact drewi g w w2 _ (i32_rng _) HC2.out HG2.out
/-- An item is drawn. -/
def DrewIt (g : Nat) (w : World) (e : Ending) (w' : World) : Prop := ∃ it : It, e = .returned (itVal it) ∧ ItIn it ∧ it.name.size ≤ 100 ∧ CurAt w' g ∧ w.grownBy w' (some g)
/-- What is drawn lies in the first new block. -/
theorem drawn_end {w W : World} {g : Nat} (hgl : g < w.heap.size) (hc : CurAt W g) (hg : w.grownBy W (some g)) (k : Int) (nm : ByteArray) (n : Int) (x : Bool) (r : Int) :
    CurAt (putAll W w.heap.size k nm n x r) g ∧ w.grownBy (putAll W w.heap.size k nm n x r) (some g) := by
  have hb : W.grownBy (putAll W w.heap.size k nm n x r) (some w.heap.size) := by
    have h0 := World.grownBy.refl W (some w.heap.size)
    exact only_setCell (only_setCell (only_setCell (only_setCell (only_setCell h0 (.inl rfl) _) (.inl rfl) _) (.inl rfl) _) (.inl rfl) _) (.inl rfl) _
  refine ⟨hc.grown hb (fun k hk => by obtain rfl := Option.some.inj hk; exact hgl), ?_⟩
  exact only_setCell (only_setCell (only_setCell (only_setCell (only_setCell hg (.inr (Nat.le_refl _)) _) (.inr (Nat.le_refl _)) _) (.inr (Nat.le_refl _)) _) (.inr (Nat.le_refl _)) _) (.inr (Nat.le_refl _)) _
theorem res_kept {w W : World} {g : Nat} (hgl : g < w.heap.size) (hg : (w.alloc (.cells (itC 0 ⟨#[]⟩ 0 false 0) 83)).grownBy W (some g)) : Blk W w.heap.size 83 (itC 0 ⟨#[]⟩ 0 false 0) :=
  (Blk.new w _ _).grown hg (fun e => by have := Option.some.inj e; omega)
def drawnVars : List ByteArray := [⟨#[120]⟩, ⟨#[97, 116]⟩, ⟨#[113, 113, 113, 113]⟩, ⟨#[116, 101, 110]⟩]
theorem drawnVars_size : ∀ x ∈ drawnVars, x.size ≤ 9 := by decide

set_option maxHeartbeats 8000000 in
theorem drawsome_any (g : Nat) (w : World) (hc : CurAt w g) : Calls Try.prog 82 #[.pointer (some ⟨g, 0, none⟩)] w (DrewIt g w) := by
  have HGL := Lib.hid (cur_lt hc)
  have HC0 := Lib.hid (below_any g 8 (by omega) (by omega) _ (hc.grown (World.grownBy_alloc w (.cells (itC 0 ⟨#[]⟩ 0 false 0) 83) none) (fun _ h => by cases h)))
  clear hc
  go_enter Try.func82, Try.ntmps82
  go_wp2_with fail
  refine HC0.out.mono ?_
  rintro e w1 ⟨y, rfl, ⟨hy0, hy1⟩, hc1, hg1⟩
  have hy2 : y ≤ 7 := by simpa using hy1
  have HG1 := Lib.hid hg1
  have HC1 := Lib.hid hc1
  clear hc1 hg1 hy1 HC0
  by_cases h0 : y = 0
  · have b0 : (y == 0) = true := by simpa using h0
    clear h0 hy0 hy2
    go_wp2_with fail
    refine (drawint_any g w1 HC1.out).mono ?_
    rintro e w2 ⟨z, rfl, hz, hc2, hg2⟩
    have HO := Lib.hid (once_any g 3 (by decide) w2 hc2)
    have HG2 := Lib.hid (only_trans HG1.out hg2)
    clear hc2 hg2
    go_wp2_with fail
    refine HO.out.mono ?_
    rintro e w3 ⟨b, rfl, hc3, hg3⟩
    have HG3 := Lib.hid (only_trans HG2.out hg3)
    have HC := Lib.hid hc3
    have HG := Lib.hid (only_trans (World.grownBy_alloc w (.cells (itC 0 ⟨#[]⟩ 0 false 0) 83) (some g)) HG3.out)
    clear hc3 hg3 HO HG1 HC1 HG2
    have kr := res_kept HGL.out HG3.out
    obtain ⟨d0, d1, d2, d3, d4, f0, f1, f2, f3, f4⟩ := itC_cells kr
    have KR := Lib.hid kr
    clear kr
    go_wp2_with fail
    have hk := putAll_blk KR.out (7) ⟨#[]⟩ (z) b 0
    have hd := drawn_end HGL.out HC.out HG.out (7) ⟨#[]⟩ (z) b 0
    show bodyPost _ _ _ _ _ (putAll w3 w.heap.size (7) ⟨#[]⟩ (z) b 0)
    generalize putAll w3 w.heap.size (7) ⟨#[]⟩ (z) b 0 = W5 at hk hd ⊢
    obtain ⟨e0, e1, e2, e3, e4, -⟩ := itC_cells hk
    clear hk
    exact bodyPost_ret (v := itA (7) ⟨#[]⟩ (z) b 0) (by simp [results, Try.results82, e0, e1, e2, e3, e4, go_sem]) rfl ⟨⟨7, ⟨#[]⟩, z, b, 0⟩, rfl, ⟨by show (-9223372036854775808 : Int) ≤ 7; decide, by show (7 : Int) ≤ 9223372036854775807; decide, hz.1, hz.2, by show 0 < 4294967296; decide, by show 0 ≤ 4611686018427387904; decide⟩, by show 0 ≤ 100; decide, hd.1, hd.2⟩
  have b0 : (y == 0) = false := by simpa using h0
  by_cases h1 : y = 1
  · have b1 : (y == 1) = true := by simpa using h1
    clear h0 h1 hy0 hy2
    go_wp2_with fail
    refine (drawint_any g w1 HC1.out).mono ?_
    rintro e w2 ⟨z, rfl, hz, hc2, hg2⟩
    have HO := Lib.hid (once_any g 3 (by decide) w2 hc2)
    have HG2 := Lib.hid (only_trans HG1.out hg2)
    clear hc2 hg2
    go_wp2_with fail
    refine HO.out.mono ?_
    rintro e w3 ⟨b, rfl, hc3, hg3⟩
    have HG3 := Lib.hid (only_trans HG2.out hg3)
    have HC := Lib.hid hc3
    have HG := Lib.hid (only_trans (World.grownBy_alloc w (.cells (itC 0 ⟨#[]⟩ 0 false 0) 83) (some g)) HG3.out)
    clear hc3 hg3 HO HG1 HC1 HG2
    have kr := res_kept HGL.out HG3.out
    obtain ⟨d0, d1, d2, d3, d4, f0, f1, f2, f3, f4⟩ := itC_cells kr
    have KR := Lib.hid kr
    clear kr
    go_wp2_with fail
    have hk := putAll_blk KR.out (8) ⟨#[]⟩ (z) b 0
    have hd := drawn_end HGL.out HC.out HG.out (8) ⟨#[]⟩ (z) b 0
    show bodyPost _ _ _ _ _ (putAll w3 w.heap.size (8) ⟨#[]⟩ (z) b 0)
    generalize putAll w3 w.heap.size (8) ⟨#[]⟩ (z) b 0 = W5 at hk hd ⊢
    obtain ⟨e0, e1, e2, e3, e4, -⟩ := itC_cells hk
    clear hk
    exact bodyPost_ret (v := itA (8) ⟨#[]⟩ (z) b 0) (by simp [results, Try.results82, e0, e1, e2, e3, e4, go_sem]) rfl ⟨⟨8, ⟨#[]⟩, z, b, 0⟩, rfl, ⟨by show (-9223372036854775808 : Int) ≤ 8; decide, by show (8 : Int) ≤ 9223372036854775807; decide, hz.1, hz.2, by show 0 < 4294967296; decide, by show 0 ≤ 4611686018427387904; decide⟩, by show 0 ≤ 100; decide, hd.1, hd.2⟩
  have b1 : (y == 1) = false := by simpa using h1
  by_cases h2 : y = 2
  · have b2 : (y == 2) = true := by simpa using h2
    clear h0 h1 h2 hy0 hy2
    have hs1 : g < w1.heap.size := by have h5 := HG1.out.size; have h6 := HGL.out; simp at h5; omega
    have HP := Lib.hid (pick_any g w1.heap.size drawnVars _ (HC1.out.grown (World.grownBy_alloc w1 _ none) (fun _ h => by cases h)) (strs_new w1 9 drawnVars) (by omega) (by simp) (by decide) (by decide))
    clear hs1
    go_wp2_with fail
    refine HP.out.mono ?_
    rintro e w2 ⟨s, rfl, hs, hc2, hg2⟩
    have hs9 := drawnVars_size s hs
    have HI := Lib.hid (drawint_any g w2 hc2)
    have HG2 := Lib.hid (only_trans (only_alloc HG1.out _) hg2)
    clear hs hc2 hg2 HP
    go_wp2_with fail
    refine HI.out.mono ?_
    rintro e w3 ⟨z, rfl, hz, hc3, hg3⟩
    have HG3 := Lib.hid (only_trans HG2.out hg3)
    have HC := Lib.hid hc3
    have HG := Lib.hid (only_trans (World.grownBy_alloc w (.cells (itC 0 ⟨#[]⟩ 0 false 0) 83) (some g)) HG3.out)
    clear hc3 hg3 HI HG1 HC1 HG2
    have kr := res_kept HGL.out HG3.out
    obtain ⟨d0, d1, d2, d3, d4, f0, f1, f2, f3, f4⟩ := itC_cells kr
    have KR := Lib.hid kr
    clear kr
    go_wp2_with fail
    have hk := putAll_blk KR.out (9) s (z) false 0
    have hd := drawn_end HGL.out HC.out HG.out (9) s (z) false 0
    show bodyPost _ _ _ _ _ (putAll w3 w.heap.size (9) s (z) false 0)
    generalize putAll w3 w.heap.size (9) s (z) false 0 = W5 at hk hd ⊢
    obtain ⟨e0, e1, e2, e3, e4, -⟩ := itC_cells hk
    clear hk
    exact bodyPost_ret (v := itA (9) s (z) false 0) (by simp [results, Try.results82, e0, e1, e2, e3, e4, go_sem]) rfl ⟨⟨9, s, z, false, 0⟩, rfl, ⟨by show (-9223372036854775808 : Int) ≤ 9; decide, by show (9 : Int) ≤ 9223372036854775807; decide, hz.1, hz.2, by show 0 < 4294967296; decide, by show s.size ≤ 4611686018427387904; omega⟩, by show s.size ≤ 100; omega, hd.1, hd.2⟩
  have b2 : (y == 2) = false := by simpa using h2
  clear h0 h1 h2 hy0 hy2
  have HB := Lib.hid (below_any g 6 (by omega) (by omega) w1 HC1.out)
  go_wp2_with fail
  refine HB.out.mono ?_
  rintro e w2 ⟨k, rfl, ⟨hk0, hk1⟩, hc2, hg2⟩
  have hk2 : k ≤ 5 := by simpa using hk1
  have HN := Lib.hid (name_any g w2 hc2)
  have HG2 := Lib.hid (only_trans HG1.out hg2)
  clear hc2 hg2 hk1 HB
  go_wp2_with fail
  refine HN.out.mono ?_
  rintro e w3 ⟨s, rfl, hs9, hc3, hg3⟩
  have HG3 := Lib.hid (only_trans HG2.out hg3)
  have HC := Lib.hid hc3
  have HG := Lib.hid (only_trans (World.grownBy_alloc w (.cells (itC 0 ⟨#[]⟩ 0 false 0) 83) (some g)) HG3.out)
  clear hc3 hg3 HN HG1 HC1 HG2
  have kr := res_kept HGL.out HG3.out
  obtain ⟨d0, d1, d2, d3, d4, f0, f1, f2, f3, f4⟩ := itC_cells kr
  have KR := Lib.hid kr
  clear kr
  go_wp2_with fail
  have hk := putAll_blk KR.out (1 + k) s (0) false 0
  have hd := drawn_end HGL.out HC.out HG.out (1 + k) s (0) false 0
  show bodyPost _ _ _ _ _ (putAll w3 w.heap.size (1 + k) s (0) false 0)
  generalize putAll w3 w.heap.size (1 + k) s (0) false 0 = W5 at hk hd ⊢
  obtain ⟨e0, e1, e2, e3, e4, -⟩ := itC_cells hk
  clear hk
  exact bodyPost_ret (v := itA (1 + k) s (0) false 0) (by simp [results, Try.results82, e0, e1, e2, e3, e4, go_sem]) rfl ⟨⟨1 + k, s, 0, false, 0⟩, rfl, ⟨by show (-9223372036854775808 : Int) ≤ 1 + k; omega, by show 1 + k ≤ 9223372036854775807; omega, by show (-2147483648 : Int) ≤ 0; decide, by show (0 : Int) ≤ 2147483647; decide, by show 0 < 4294967296; decide, by show s.size ≤ 4611686018427387904; omega⟩, by show s.size ≤ 100; omega, hd.1, hd.2⟩
end Go.Proofs.Ytcddkcejjajlhaa

namespace Go.Proofs.Ytcddkcejjajlhaa
open Go.RowKit Go

end Go.Proofs.Ytcddkcejjajlhaa

namespace Go.Proofs.Ytcddkcejjajlhaa
open Go.RowKit Go

end Go.Proofs.Ytcddkcejjajlhaa

