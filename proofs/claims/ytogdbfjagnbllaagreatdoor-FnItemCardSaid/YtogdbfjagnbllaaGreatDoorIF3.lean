/-
  The model's cursor and its draws: numbers, texts, names; the bytes that come in.
  What every row of this seat asks of the program as a whole.
  Package-level tables of numbers of which nothing is known but that they hold numbers of their kinds.
  NameOk, of the program and of its model, tells whether a text is a name.
  BitsOf of the model answers a letter's code.
  As many first letters as fit are packed into one field, by the program and by its model.
  A copy of a list of numbers of 32 bits.
-/
import Derived.Test.YtogdbfjagnbllaaGreatDoorIF1
import Derived.Laws.BitsAllLaws
import Derived.Laws.BitsLemmas
import Derived.BigCall
import Derived.BigGuard
import Derived.Test.YtogdbfjagnbllaaGreatDoorIF2
import Derived.Laws.BytesArg
import Derived.OwnWalk
import Derived.Test.YtogdbfjagnbllaaGreatDoorRows
import Derived.MakeChecks
import GoSem.Claims
import Derived.Deep.QuietTactic
import Derived.BigQuiet
import Derived.Laws.IdiomStrings
import Derived.Laws.AppendOwn
namespace Go.Proofs.YtogdbfjagnbllaaGreatDoor
open Go.RowKit

/-- The bytes of a slice that came in. -/
def CodeOk (w : World) (B : Nat) (A : Option Addr) (len : Nat) : Prop :=
  len ≤ 9223372036854775807 ∧ ∀ j, j < len → ∃ ad z, A = some ad ∧ ad.block < B ∧ 0 ≤ z ∧ z ≤ 255 ∧ w.cell? (ad.add j) = some (.int .u8 z)
theorem addr_add_block (a : Addr) (n : Nat) : (a.add n).block = a.block := by unfold Addr.add; split <;> rfl
theorem CodeOk.keep {w w' : World} {B len : Nat} {A : Option Addr} (h : CodeOk w B A len) (hk : ∀ p : Addr, p.block < B → w'.cell? p = w.cell? p) : CodeOk w' B A len :=
  ⟨h.1, fun j hj => by obtain ⟨ad, z, e, hb, h0, h1, hc⟩ := h.2 j hj; exact ⟨ad, z, e, hb, h0, h1, (hk _ (by rw [addr_add_block]; exact hb)).trans hc⟩⟩
theorem CodeOk.more {w : World} {B B' len : Nat} {A : Option Addr} (h : CodeOk w B A len) (hB : B ≤ B') : CodeOk w B' A len :=
  ⟨h.1, fun j hj => by obtain ⟨ad, z, e, hb, r⟩ := h.2 j hj; exact ⟨ad, z, e, by omega, r⟩⟩
theorem CodeOk.below {w w' : World} {B len : Nat} {A : Option Addr} (h : CodeOk w B A len) (hb : Below B w w') : CodeOk w' B A len := h.keep fun _ hp => hb.cell hp

/-- Block g is a cursor. -/
def CurAt (w : World) (g : Nat) : Prop :=
  ∃ (A : Option Addr) (len cap : Nat) (i : Nat) (h : Int), Blk w g 91 #[.slice A len cap, .int .i64 i, .int .i64 h] ∧ i ≤ len ∧ CodeOk w g A len
theorem CurAt.grown {w w' : World} {g : Nat} {row : Option Nat} (h : CurAt w g) (hg : w.grownBy w' row) (hr : ∀ k, row = some k → g < k) : CurAt w' g := by
  obtain ⟨A, len, cap, i, x, hb, hi, hc⟩ := h
  have hlt := hb.lt
  refine ⟨A, len, cap, i, x, hb.grown hg (fun e => by have := hr g e.symm; omega), hi, hc.keep fun p hp => World.cell?_of_block (hg.block p.block (by omega) (fun e => by have := hr _ e.symm; omega))⟩
theorem CurAt.below {w w' : World} {g : Nat} (h : CurAt w g) (hb : Below w.heap.size w w') : CurAt w' g := by
  obtain ⟨A, len, cap, i, x, hk, hi, hc⟩ := h
  exact ⟨A, len, cap, i, x, hk.below hb hk.lt, hi, hc.keep fun p hp => hb.cell (by have := hk.lt; omega)⟩

theorem and255 (y : Int) : 0 ≤ bits .and .i64 y 255 ∧ bits .and .i64 y 255 ≤ 255 := by
  have h : bits .and .i64 y 255 = IntKind.i64.wrap ((BitVec.ofInt 64 y &&& BitVec.ofInt 64 255).toNat : Int) := rfl
  have hle : (BitVec.ofInt 64 y &&& BitVec.ofInt 64 255).toNat ≤ 255 := by
    rw [BitVec.toNat_and]
    exact Nat.le_trans Nat.and_le_right (by decide)
  rw [h, IntKind.wrap_i64]
  omega

/-- What comes of a step of the cursor: a byte; only block g has changed. -/
def Drew (g : Nat) (w : World) (lo hi : Int) (e : Ending) (w' : World) : Prop := ∃ x : Int, e = .returned (.int .i64 x) ∧ (lo ≤ x ∧ x ≤ hi) ∧ CurAt w' g ∧ w.grownBy w' (some g)

set_option maxRecDepth 100000 in
set_option maxHeartbeats 2000000 in
theorem byte_any (g : Nat) (w : World) (hc : CurAt w g) : Calls Tryz.prog 72 #[.pointer (some ⟨g, 0, none⟩)] w (Drew g w 0 255) := by
  obtain ⟨A, len, cap, i, h, hb, hi, hcode⟩ := hc
  have c0 := hb.cell 0
  have c1 := hb.cell 1
  have c2 := hb.cell 2
  have f1 := hb.frozen 1
  have f2 := hb.frozen 2
  simp at c0 c1 c2
  have HB := Lib.hid hb
  have HC := Lib.hid hcode
  clear hb hcode
  go_enter Tryz.func72, Tryz.ntmps72
  go_wp2
  obtain ⟨h2, hh⟩ : ∃ h2, wrap64 (wrap64 (h * 6364136223846793005) + 1442695040888963407) = h2 := ⟨_, rfl⟩
  rw [hh]
  have hb1 := HB.out.put 2 (.int .i64 h2)
  have hg1 : w.grownBy (w.setCell ⟨g, 2, none⟩ (.int .i64 h2)) (some g) := only_setCell (World.grownBy.refl w _) (.inl rfl) _
  have hcd1 : CodeOk (w.setCell ⟨g, 2, none⟩ (.int .i64 h2)) g A len := HC.out.keep fun p hp => World.cell?_setCell_other w ⟨g, 2, none⟩ p _ (fun e => by subst e; simp at hp)
  obtain ⟨W1, hW⟩ : ∃ W1, w.setCell ⟨g, 2, none⟩ (.int .i64 h2) = W1 := ⟨_, rfl⟩
  rw [hW] at hb1 hg1 hcd1 ⊢
  clear hW hh c0 c1 c2 f1 f2 HB HC
  simp at hb1
  have c0 := hb1.cell 0
  have c1 := hb1.cell 1
  have c2 := hb1.cell 2
  have f1 := hb1.frozen 1
  simp at c0 c1 c2
  have HB := Lib.hid hb1
  have HG := Lib.hid hg1
  have HC := Lib.hid hcd1
  clear hb1 hg1 hcd1
  go_quiet (fail)
  go_wp2
  have hx := and255 (bits BinOp.xor IntKind.i64 (h2 / 8589934592) (h2 / 35184372088832))
  obtain ⟨x0, hx0⟩ : ∃ x0, bits BinOp.and IntKind.i64 (bits BinOp.xor IntKind.i64 (h2 / 8589934592) (h2 / 35184372088832)) 255 = x0 := ⟨_, rfl⟩
  rw [hx0] at hx ⊢
  clear hx0
  obtain ⟨hx0, hx1⟩ := hx
  by_cases hlt : i < len
  · have hlt' : (i : Int) < (len : Int) := by omega
    have hlen := HC.out.1
    obtain ⟨ad, z, hA, hadb, hz0, hz1, hz⟩ := HC.out.2 i hlt
    subst hA
    go_quiet (fail)
    go_wp2
    go_quiet (fail)
    go_wp2
    have hy := and255 (x0 + z)
    go_ret
    have hb2 : ∀ m, Blk ((W1.drewN m).setCell ⟨g, 1, none⟩ (.int .i64 ((i : Int) + 1))) g 91 #[.slice (some ad) len cap, .int .i64 ((i : Int) + 1), .int .i64 h2] := fun m => by
      have h := Blk.put (w := W1.drewN m) HB.out 1 (.int .i64 ((i : Int) + 1))
      simpa using h
    exact ⟨_, rfl, hy, ⟨some ad, len, cap, i + 1, h2, hb2 _, by omega, HC.out.keep fun p hp => World.cell?_setCell_other (W1.drewN _) ⟨g, 1, none⟩ p _ (fun e => by subst e; simp at hp)⟩, only_setCell (only_drewN HG.out _) (.inl rfl) _⟩
  · have hlt' : (len : Int) ≤ (i : Int) := by omega
    go_quiet (fail)
    go_wp2
    go_ret
    exact ⟨x0, rfl, ⟨hx0, hx1⟩, ⟨A, len, cap, i, h2, HB.out, hi, HC.out⟩, only_drewN (only_drewN HG.out _) _⟩

/-- A number of 0 .. n-1 is drawn; 0 where n is not above 0. -/
theorem below_any (g : Nat) (n : Int) (h0 : -9223372036854775808 ≤ n) (h1 : n ≤ 9223372036854775807) (w : World) (hc : CurAt w g) : Calls Tryz.prog 41 #[.pointer (some ⟨g, 0, none⟩), .int .i64 n] w (Drew g w 0 (if n ≤ 0 then 0 else n - 1)) := by
  have HC := Lib.hid hc
  clear hc
  by_cases hn : n ≤ 0
  · rw [if_pos hn]
    have HN := Lib.hid hn
    go_enter Tryz.func41, Tryz.ntmps41
    go_wp2
    go_ret
    exact ⟨0, rfl, ⟨by omega, by omega⟩, HC.out, World.grownBy.refl _ _⟩
  · rw [if_neg hn]
    by_cases h256 : n ≤ 256
    · have hn' : 0 < n := by omega
      clear hn
      go_enter Tryz.func41, Tryz.ntmps41
      go_wp2_with (go_at_call 72; refine (byte_any g _ HC.out).mono ?_; rintro e w' ⟨x, rfl, ⟨hx0, hx1⟩, hc2, hg2⟩)
      go_ret
      exact ⟨_, rfl, ⟨Int.emod_nonneg _ (by omega), by have := Int.emod_lt_of_pos x hn'; omega⟩, hc2, hg2⟩
    · have hn' : 256 < n := by omega
      clear hn h256
      go_enter Tryz.func41, Tryz.ntmps41
      go_wp2_with fail
      refine (byte_any g _ HC.out).mono ?_
      rintro e w1 ⟨x1, rfl, ⟨hx10, hx11⟩, hc1, hg1⟩
      go_wp2_with fail
      refine (byte_any g _ hc1).mono ?_
      rintro e w2 ⟨x2, rfl, ⟨hx20, hx21⟩, hc2, hg2⟩
      go_wp2_with fail
      refine (byte_any g _ hc2).mono ?_
      rintro e w3 ⟨x3, rfl, ⟨hx30, hx31⟩, hc3, hg3⟩
      go_wp2_with fail
      refine (byte_any g _ hc3).mono ?_
      rintro e w4 ⟨x4, rfl, ⟨hx40, hx41⟩, hc4, hg4⟩
      go_wp2_with fail
      go_ret
      exact ⟨_, rfl, ⟨Int.emod_nonneg _ (by omega), by have := Int.emod_lt_of_pos (x1 * 16777216 + x2 * 65536 + x3 * 256 + x4) (show 0 < n by omega); omega⟩, hc4, only_trans (only_trans (only_trans hg1 hg2) hg3) hg4⟩
end Go.Proofs.YtogdbfjagnbllaaGreatDoor

namespace Go.Proofs.YtogdbfjagnbllaaGreatDoor
open Go.RowKit

/-- What comes of making a cursor: a pointer to a block of the call's own. -/
def Made (w : World) (e : Ending) (w' : World) : Prop := ∃ g : Nat, e = .returned (.pointer (some ⟨g, 0, none⟩)) ∧ w.heap.size ≤ g ∧ CurAt w' g ∧ Below w.heap.size w w'

set_option maxHeartbeats 1000000 in
theorem new_any (A : Option Addr) (len cap : Nat) (w : World) (hcode : CodeOk w w.heap.size A len) : Calls Tryz.prog 28 #[.slice A len cap] w (Made w) := by
  have hlen := hcode.1
  have HC := Lib.hid hcode
  clear hcode
  go_enter Tryz.func28, Tryz.ntmps28
  go_wp2
  go_loop [3, 4] (fun h i => ∃ (k : Nat) (x : Int), k ≤ len ∧ i = .int .i64 k ∧ h = .int .i64 x) (fun _ i => len - (intOf i).toNat)
  case atStart => exact ⟨0, _, by omega, rfl, rfl⟩
  case round =>
    obtain ⟨k, x, hk, rfl, rfl⟩ := hrel
    by_cases hks : k < len
    · obtain ⟨ad, z, hA, hadb, hz0, hz1, hz⟩ := HC.out.2 k hks
      subst hA
      by_cases h4 : k < 4000
      · have h4' : decide ((k : Int) < 4000) = true := by simp; omega
        go_wp2
        go_round
        case rel => exact ⟨k + 1, _, by omega, by go_num, rfl⟩
        case measure => simp [intOf]; omega
      · have h4' : decide ((k : Int) < 4000) = false := by simp; omega
        go_wp2
        go_ret
        exact ⟨w.heap.size, rfl, Nat.le_refl _, ⟨some ad, len, cap, 0, _, Blk.new _ _ _, by omega, HC.out.below ((Below.refl _ _).alloc (Nat.le_refl _) _)⟩, (Below.refl _ _).alloc (Nat.le_refl _) _⟩
    · have hks' : decide ((k : Int) < (len : Int)) = false := by simp; omega
      go_wp2
      go_ret
      exact ⟨w.heap.size, rfl, Nat.le_refl _, ⟨A, len, cap, 0, _, Blk.new _ _ _, by omega, HC.out.below ((Below.refl _ _).alloc (Nat.le_refl _) _)⟩, (Below.refl _ _).alloc (Nat.le_refl _) _⟩
end Go.Proofs.YtogdbfjagnbllaaGreatDoor

namespace Go.Proofs.YtogdbfjagnbllaaGreatDoor
open Go.RowKit

/-- A block of numbers. -/
def IntsAt (w : World) (b : Nat) (zs : List Int) : Prop := ∀ j (h : j < zs.length), w.cell? ⟨b, j, none⟩ = some (.int .i64 zs[j])
theorem ints_new (w : World) (t : TypeId) (zs : List Int) : IntsAt (w.alloc (.cells (zs.map (Value.int .i64)).toArray t)) w.heap.size zs := fun j h => by
  rw [(Blk.new w t _).cell]
  simp [h]
def Picked (g : Nat) (w : World) (zs : List Int) (e : Ending) (w' : World) : Prop := ∃ x : Int, e = .returned (.int .i64 x) ∧ x ∈ zs ∧ CurAt w' g ∧ w.grownBy w' (some g)
theorem pickint_any (g b : Nat) (zs : List Int) (w : World) (hc : CurAt w g) (hl : IntsAt w b zs) (hb : b ≠ g) (hblt : b < w.heap.size) (hn : 1 ≤ zs.length) (hn2 : zs.length ≤ 1000) :
    Calls Tryz.prog 62 #[.pointer (some ⟨g, 0, none⟩), .slice (some ⟨b, 0, none⟩) zs.length zs.length] w (Picked g w zs) := by
  have HC := Lib.hid (below_any g (zs.length : Int) (by omega) (by omega) w hc)
  have HL := Lib.hid hl
  have HN := Lib.hid hb
  clear hc hl hb
  go_enter Tryz.func62, Tryz.ntmps62
  go_wp2_with fail
  refine HC.out.mono ?_
  rintro e w1 ⟨x, rfl, ⟨hx0, hx1⟩, hc1, hg1⟩
  rw [if_neg (by omega)] at hx1
  obtain ⟨j, rfl⟩ : ∃ j : Nat, x = j := ⟨x.toNat, by omega⟩
  have hj : j < zs.length := by omega
  have hcell : w1.cell? ⟨b, j, none⟩ = some (.int .i64 zs[j]) := (World.cell?_of_block (hg1.block b hblt (fun e => HN.out (by injection e)))).trans (HL.out j hj)
  have HG := Lib.hid hg1
  go_wp2_with fail
  go_ret
  exact ⟨zs[j], rfl, List.getElem_mem _, hc1, HG.out⟩

def DrewWord (g : Nat) (w : World) (e : Ending) (w' : World) : Prop := ∃ x : Nat, e = .returned (.int .u32 x) ∧ x < 4294967296 ∧ CurAt w' g ∧ w.grownBy w' (some g)
theorem u32_nat (x : Int) : ∃ n : Nat, IntKind.u32.wrap x = (n : Int) ∧ n < 4294967296 := ⟨(x % 4294967296).toNat, by rw [IntKind.wrap_u32]; omega, by omega⟩

theorem ret_u32 {a b : Int} (h : a = b) : Ending.returned (.int .u32 a) = .returned (.int .u32 b) := by rw [h]
set_option maxHeartbeats 2000000 in
theorem word_any (g : Nat) (w : World) (hc : CurAt w g) : Calls Tryz.prog 61 #[.pointer (some ⟨g, 0, none⟩)] w (DrewWord g w) := by
  have hglt : g < w.heap.size := by obtain ⟨_, _, _, _, _, hb, _⟩ := hc; exact hb.lt
  have HC := Lib.hid (below_any g 4 (by omega) (by omega) w hc)
  clear hc
  go_enter Tryz.func61, Tryz.ntmps61
  go_wp2_with fail
  refine HC.out.mono ?_
  rintro e w1 ⟨x, rfl, ⟨hx0, hx1⟩, hc1, hg1⟩
  have hglt1 : g < w1.heap.size := by have := hg1.size; omega
  have HG := Lib.hid hg1
  clear hg1
  by_cases h0 : x = 0
  · have h0' : (x == 0) = true := by simpa using h0
    clear h0
    go_wp2_with fail
    refine (pickint_any g w1.heap.size [0, 1, 2, 31, 32, 255, 256, 2147483647, 2147483648, 4294967295, 4294967294] _ (hc1.grown (World.grownBy_alloc w1 _ none) (fun _ h => by cases h)) (ints_new w1 3 [0, 1, 2, 31, 32, 255, 256, 2147483647, 2147483648, 4294967295, 4294967294]) (by omega) (by simp) (by decide) (by decide)).mono ?_
    rintro e w2 ⟨y, rfl, -, hc2, hg2⟩
    obtain ⟨n, hn, hnb⟩ := u32_nat y
    have HG2 := Lib.hid hg2
    have HNB := Lib.hid hnb
    clear hg2 hnb
    go_wp2_with fail
    go_ret
    exact ⟨n, rfl, HNB.out, hc2, only_trans (only_alloc HG.out _) HG2.out⟩
  · have h0' : (x == 0) = false := by simpa using h0
    by_cases h1 : x = 1
    · have h1' : (x == 1) = true := by simpa using h1
      clear h0 h1
      go_wp2_with fail
      refine (below_any g 300 (by omega) (by omega) _ hc1).mono ?_
      rintro e w2 ⟨y, rfl, ⟨hy0, hy1⟩, hc2, hg2⟩
      have hy2 : y ≤ 299 := by simpa using hy1
      obtain ⟨n, rfl⟩ : ∃ n : Nat, y = n := ⟨y.toNat, by omega⟩
      have HG2 := Lib.hid hg2
      clear hg2 hy1
      go_wp2_with fail
      go_ret
      exact ⟨n, rfl, by omega, hc2, only_trans HG.out HG2.out⟩
    · have h1' : (x == 1) = false := by simpa using h1
      clear h0 h1
      go_wp2_with fail
      refine (below_any g 65536 (by omega) (by omega) _ hc1).mono ?_
      rintro e w2 ⟨y, rfl, ⟨hy0, hy1⟩, hc2, hg2⟩
      have hy2 : y ≤ 65535 := by simpa using hy1
      have HG2 := Lib.hid hg2
      clear hg2 hy1
      go_wp2_with fail
      refine (below_any g 65536 (by omega) (by omega) _ hc2).mono ?_
      rintro e w3 ⟨z, rfl, ⟨hz0, hz1⟩, hc3, hg3⟩
      have hz2 : z ≤ 65535 := by simpa using hz1
      have HG3 := Lib.hid hg3
      clear hg3 hz1
      go_wp2_with fail
      go_ret
      exact ⟨(y * 65536 + z).toNat, ret_u32 (by omega), by omega, hc3, only_trans (only_trans HG.out HG2.out) HG3.out⟩
end Go.Proofs.YtogdbfjagnbllaaGreatDoor

namespace Go.Proofs.YtogdbfjagnbllaaGreatDoor
open Go.RowKit

/-- A block of texts. -/
def StrsAt (w : World) (b : Nat) (zs : List ByteArray) : Prop := ∀ j (h : j < zs.length), w.cell? ⟨b, j, none⟩ = some (.string zs[j])
theorem strs_new (w : World) (t : TypeId) (zs : List ByteArray) : StrsAt (w.alloc (.cells (zs.map Value.string).toArray t)) w.heap.size zs := fun j h => by
  rw [(Blk.new w t _).cell]
  simp [h]
def PickedS (g : Nat) (w : World) (zs : List ByteArray) (e : Ending) (w' : World) : Prop := ∃ x : ByteArray, e = .returned (.string x) ∧ x ∈ zs ∧ CurAt w' g ∧ w.grownBy w' (some g)
theorem pick_any (g b : Nat) (zs : List ByteArray) (w : World) (hc : CurAt w g) (hl : StrsAt w b zs) (hb : b ≠ g) (hblt : b < w.heap.size) (hn : 1 ≤ zs.length) (hn2 : zs.length ≤ 1000) :
    Calls Tryz.prog 42 #[.pointer (some ⟨g, 0, none⟩), .slice (some ⟨b, 0, none⟩) zs.length zs.length] w (PickedS g w zs) := by
  have HC := Lib.hid (below_any g (zs.length : Int) (by omega) (by omega) w hc)
  have HL := Lib.hid hl
  have HN := Lib.hid hb
  clear hc hl hb
  go_enter Tryz.func42, Tryz.ntmps42
  go_wp2_with fail
  refine HC.out.mono ?_
  rintro e w1 ⟨x, rfl, ⟨hx0, hx1⟩, hc1, hg1⟩
  rw [if_neg (by omega)] at hx1
  obtain ⟨j, rfl⟩ : ∃ j : Nat, x = j := ⟨x.toNat, by omega⟩
  have hj : j < zs.length := by omega
  have hcell : w1.cell? ⟨b, j, none⟩ = some (.string zs[j]) := (World.cell?_of_block (hg1.block b hblt (fun e => HN.out (by injection e)))).trans (HL.out j hj)
  have HG := Lib.hid hg1
  go_wp2_with fail
  go_ret
  exact ⟨zs[j], rfl, List.getElem_mem _, hc1, HG.out⟩
end Go.Proofs.YtogdbfjagnbllaaGreatDoor

namespace Go.Proofs.YtogdbfjagnbllaaGreatDoor
open Go.RowKit Go

def u8v (c : UInt8) : Value := .int .u8 (c.toNat : Int)
theorem infoU8 : (Tryz.prog.info? 5).map (fun i => (i.zero, i.size, i.bytes)) = some (some (.int .u8 0), 1, 1) := by kernel_rfl
/-- 'string(b)' of bytes of the call's own. -/
theorem own_string {P : Program} {w : World} {base : Nat} {src dst e : TypeId} {v : Value} {l : List UInt8} (hs : P.underlying src = some (.slice e)) (he : P.underlying e = some (.int .u8)) (hd : P.underlying dst = some .string)
    (h : w.ownsRow base e 1 v l.length (l.map u8v)) : (convert src dst v).run P w = .ok (.string ⟨l.toArray⟩) w := by
  rcases h.2 with ⟨rfl, h0⟩ | ⟨g, cap, cur, rfl, hb, hg, hn, hm, hsz, ht⟩
  · have hl : l = [] := List.eq_nil_of_length_eq_zero h0
    subst hl
    exact run_convert_bytes_nil w src e hs he 0 0 dst hd
  · refine run_convert_bytes_back w src dst e _ _ l hs he hd fun j hj => ?_
    rw [addr_lit, Nat.zero_add, cell_of_row w g j cur e (0, 0) hg]
    have h1 := congrArg (·[j]?) ht
    simpa [List.getElem?_take, hj, u8v] using h1
theorem byteAt_int {k : Nat} (h : k < 48) : letAt (k : Int) = ((byteAt (k : Int)).toNat : Int) := by
  obtain ⟨_, h2, h3⟩ := back_all k h
  unfold byteAt
  rw [UInt8.toNat_ofNat_of_lt' (by show _ < 256; omega)]
  omega
end Go.Proofs.YtogdbfjagnbllaaGreatDoor

namespace Go.Proofs.YtogdbfjagnbllaaGreatDoor
open Go.RowKit Go

theorem once_any (g : Nat) (n : Nat) (h1 : n ≤ 1000) (w : World) (hc : CurAt w g) : Calls Tryz.prog 63 #[.pointer (some ⟨g, 0, none⟩), .int .i64 (n : Int)] w fun e w' => ∃ b : Bool, e = .returned (.bool b) ∧ CurAt w' g ∧ w.grownBy w' (some g) := by
  have HC := Lib.hid (below_any g (n : Int) (by omega) (by omega) w hc)
  clear hc
  go_enter Tryz.func63, Tryz.ntmps63
  go_wp2_with fail
  refine HC.out.mono ?_
  rintro e w1 ⟨x, rfl, -, hc1, hg1⟩
  have HG := Lib.hid hg1
  have HC1 := Lib.hid hc1
  clear hg1 hc1
  go_wp2_with fail
  go_ret
  exact ⟨_, rfl, HC1.out, HG.out⟩
theorem cur_lt {w : World} {g : Nat} (h : CurAt w g) : g < w.heap.size := by
  obtain ⟨_, _, _, _, _, hb, _⟩ := h
  exact hb.lt
theorem only_app {w wr w1 : World} {g : Nat} {row : Option Nat} (h : w.grownBy wr (some g)) (hg : wr.grownBy w1 row) (hr : ∀ k, row = some k → w.heap.size ≤ k) : w.grownBy w1 (some g) :=
  ⟨hg.os.trans h.os, hg.tape.trans h.tape, hg.output.trans h.output, Nat.le_trans h.size hg.size, fun i hi hne => (hg.block i (Nat.lt_of_lt_of_le hi h.size) (fun e => by have := hr i e.symm; omega)).trans (h.block i hi hne)⟩
theorem own_ne {w : World} {base : Nat} {e : TypeId} {size : Nat} {v : Value} {n : Nat} {xs : List Value} {g : Nat} (h : w.ownsRow base e size v n xs) (hg : g < base) : v.ownBlock = none ∨ v.ownBlock ≠ some g :=
  .inr (fun e => by have := own_lt h g e; omega)
/-- A name is drawn, of at most nine bytes. -/
def NamedS (g : Nat) (w : World) (e : Ending) (w' : World) : Prop := ∃ s : ByteArray, e = .returned (.string s) ∧ s.size ≤ 9 ∧ CurAt w' g ∧ w.grownBy w' (some g)
def drawnNames : List ByteArray := [⟨#[100, 117, 112]⟩, ⟨#[111, 118, 101, 114]⟩, ⟨#[115, 113, 117, 97, 114, 101]⟩, ⟨#[97, 33]⟩, ⟨#[50, 42]⟩, ⟨#[103, 111]⟩, ⟨#[45, 105, 102]⟩, ⟨#[59]⟩, ⟨#[63]⟩, ⟨#[114, 114, 114, 114, 114, 114, 114]⟩, ⟨#[114, 116, 111, 101, 97, 110, 105]⟩, ⟨#[119, 119, 119, 119, 119, 119]⟩, ⟨#[113, 113, 113, 113, 113]⟩, ⟨#[120]⟩]
theorem drawnNames_size : ∀ x ∈ drawnNames, x.size ≤ 9 := by decide

set_option maxRecDepth 100000 in
set_option maxHeartbeats 2000000 in
theorem name_any (g : Nat) (w : World) (hc : CurAt w g) : Calls Tryz.prog 90 #[.pointer (some ⟨g, 0, none⟩)] w (NamedS g w) := by
  obtain ⟨i0, hinf, hz0, hz1, hz2⟩ := info_parts infoU8
  have HO := Lib.hid (once_any g 2 (by decide) w hc)
  have hgl := cur_lt hc
  clear hc
  go_enter Tryz.func90, Tryz.ntmps90
  go_wp2_with fail
  refine HO.out.mono ?_
  rintro e w1 ⟨b, rfl, hc1, hg1⟩
  have HC1 := Lib.hid hc1
  have HG1 := Lib.hid hg1
  have hs1 := hg1.size
  clear hc1 hg1 HO
  cases b with
  | true =>
    have PK := pick_any g w1.heap.size drawnNames _ (HC1.out.grown (World.grownBy_alloc w1 _ none) (fun _ h => by cases h)) (strs_new w1 9 drawnNames) (by omega) (by simp) (by decide) (by decide)
    have HPK := Lib.hid PK
    clear PK
    go_wp2_with fail
    refine HPK.out.mono ?_
    rintro e w2 ⟨x, rfl, hx, hc2, hg2⟩
    have hx9 := drawnNames_size x hx
    have HC2 := Lib.hid hc2
    have HG2 := Lib.hid (only_trans (only_alloc HG1.out _) hg2)
    clear hx hc2 hg2
    go_wp2_with fail
    go_ret
    exact ⟨x, rfl, hx9, HC2.out, HG2.out⟩
  | false =>
    have HB := Lib.hid (below_any g 9 (by omega) (by omega) _ (HC1.out.grown (World.grownBy_alloc w1 (.cells #[] 5) none) (fun _ h => by cases h)))
    have HE := Lib.hid (own_empty w1 5)
    go_wp2_with fail
    refine HB.out.mono ?_
    rintro e w2 ⟨y, rfl, ⟨hy0, hy1⟩, hc2, hg2⟩
    have hy2 : y ≤ 8 := by simpa using hy1
    have hO2 := HE.out.kept hg2 (own_ne HE.out (by omega))
    have hG2 := only_trans (only_alloc HG1.out (.cells #[] 5)) hg2
    have HO2 := Lib.hid hO2
    have HG2 := Lib.hid hG2
    have HC2 := Lib.hid hc2
    clear hy1 hc2 hg2 hO2 hG2 HB HE
    go_wp2_with fail
    go_loopw [3, 5] (fun vo vi wr => ∃ (i : Nat) (l : List UInt8), vi = .int .i64 i ∧ l.length = i ∧ (i : Int) ≤ 1 + y ∧ wr.ownsRow w1.heap.size 5 1 vo l.length (l.map u8v) ∧ Hid (CurAt wr g ∧ w.grownBy wr (some g) ∧ w1.heap.size ≤ wr.heap.size)) (fun _ vi _ => (1 + y).toNat - (intOf vi).toNat)
    case atStart => exact ⟨0, [], rfl, rfl, by omega, HO2.out, Lib.hid ⟨HC2.out, HG2.out, by
      have h1 := hs1
      have h2 := (HO2.out.2)
      rcases h2 with ⟨h3, _⟩ | ⟨k, _, _, h3, h4, h5, _⟩
      · cases h3
      · have := (Array.getElem?_eq_some_iff.1 h5).1; omega⟩⟩
    case round =>
      obtain ⟨i, l, rfl, hl, hi, hown, HW⟩ := hrel
      obtain ⟨hcr, hgr, hsr⟩ := HW.out
      by_cases hp : (i : Int) < 1 + y
      · have HB := Lib.hid (below_any g 47 (by omega) (by omega) _ hcr)
        clear hcr hgr
        go_wp2_with fail
        refine HB.out.mono ?_
        rintro e w3 ⟨k, rfl, ⟨hk0, hk1⟩, hc3, hg3⟩
        have hk2 : k ≤ 46 := by simpa using hk1
        obtain ⟨m, rfl⟩ : ∃ m : Nat, k = m := ⟨k.toNat, by omega⟩
        have hO3 := hown.kept hg3 (own_ne hown (by omega))
        have HL : Hid (∀ W, Calls Tryz.prog 115 #[.int .i64 (1 + (m : Int))] W fun e w' => e = .returned (.int .u8 ((byteAt ((1 + m : Nat) : Int)).toNat : Int)) ∧ W = w') := Lib.hid fun W => by
          rw [← byteAt_int (k := 1 + m) (by omega)]
          have e : ((1 + m : Nat) : Int) = 1 + (m : Int) := by omega
          rw [e]
          exact spec_letterat _ W
        obtain ⟨c, hcc⟩ : ∃ c, byteAt ((1 + m : Nat) : Int) = c := ⟨_, rfl⟩
        rw [hcc] at HL
        have hs3 := hg3.size
        have HC3 := Lib.hid hc3
        have HG3 := Lib.hid (only_trans HW.out.2.1 hg3)
        clear hcc hk1 hc3 hg3 hown HB HW
        go_wp2_with fail
        refine (HL.out _).mono ?_
        rintro e w' ⟨rfl, rfl⟩
        go_wp2_with (at_builtin; refine wpList_append_own _ rfl _ _ 22 rfl w1.heap.size 5 i0 (.int .u8 0) 1 1 Tryz.underlying22 hinf hz0 hz1 hz2 rfl (by decide) _ _ _ rfl (hO3.alloc _) ⟨w3.heap.size, 0, none⟩ 1 1 [.int .u8 (c.toNat : Int)] rfl rfl (cell_one_new _ _ _) (by simp [Value.oneCell']) (by unfold maxLen; omega) (by omega) (by simp; omega) ?_; intro v' w4 hown' hgrow _)
        have hgs := hgrow.size
        have hal : w3.heap.size ≤ (w3.alloc (.cells #[.int .u8 (c.toNat : Int)] 5)).heap.size := by simp
        go_roundw
        case rel => exact ⟨i + 1, l ++ [c], by go_num, by simp [hl], by omega, by simpa [u8v] using hown', Lib.hid ⟨(HC3.out.grown (World.grownBy_alloc w3 _ none) (fun _ h => by cases h)).grown hgrow (fun k hk => by have := own_lt hO3 k hk; omega), only_app (only_alloc HG3.out _) hgrow (fun k hk => by have := own_lt hO3 k hk; omega), by omega⟩⟩
        case measure => simp [intOf]; omega
      · have hstr := own_string (P := Tryz.prog) (src := 22) (dst := 9) Tryz.underlying22 Tryz.underlying5 Tryz.underlying9 hown
        clear hown hcr hgr
        go_wp2_with fail
        go_ret
        exact ⟨_, rfl, by show l.length ≤ 9; omega, HW.out.1, HW.out.2.1⟩
end Go.Proofs.YtogdbfjagnbllaaGreatDoor

namespace Go.Proofs.YtogdbfjagnbllaaGreatDoor
open Go.ChangeShapes Go.WideShapes Go.ChangeAt Go.RowKit

theorem lt_of_cell_any {w : World} {a : Addr} {v : Value} (h : w.cell? a = some v) : a.block < w.heap.size := by
  rcases Nat.lt_or_ge a.block w.heap.size with hl | hl
  · exact hl
  · have e : w.heap[a.block]? = none := Array.getElem?_eq_none hl
    simp [World.cell?, e] at h
theorem code_of {H : Type} {enc : TypeId × Value → H} {P : Program} {W : World} {t e : TypeId} {A : Option Addr} {len cap : Nat} {d : DataW H} {p : List MemPlace}
    (ht : P.underlying t = some (.slice e)) (he : P.underlying e = some (.int .u8)) (hc : P.cellsOf e = 1) (h : DataW.Trod enc P W 0 (fun _ => true) true t (.slice A len cap) d p) : CodeOk W W.heap.size A len := by
  obtain ⟨fuel, hf⟩ := h
  rcases open_ints ht he hc hf with ⟨hcs, -⟩ | ⟨a, len', cap', zs, hcs, -, hl, hm, hz, -, hcell, hwz⟩
  · have hcs' : (Value.slice A len cap) = .slice none 0 0 := by simpa [Value.cells] using hcs
    injection hcs' with h1 h2 h3
    subst h1 h2 h3
    exact ⟨by omega, fun j hj => by omega⟩
  · have hcs' : (Value.slice A len cap) = .slice (some a) len' cap' := by simpa [Value.cells] using hcs
    injection hcs' with h1 h2 h3
    subst h1 h2 h3
    unfold maxLen at hm
    simp at hz
    refine ⟨by omega, fun j hj => ?_⟩
    have h1 := hcell j (by omega)
    have h2 := lt_of_cell_any h1
    rw [addr_add_block] at h2
    have hmem : zs.getD j 0 ∈ zs := by
      have e : zs.getD j 0 = zs[j]'(by omega) := by simp [List.getD, List.getElem?_eq_getElem (show j < zs.length by omega)]
      rw [e]
      exact List.getElem_mem _
    have hw := hwz _ hmem
    have hb : 0 ≤ zs.getD j 0 ∧ zs.getD j 0 ≤ 255 := by
      simpa [Lit.wf, IntKind.min, IntKind.max, IntKind.signed, IntKind.bits] using hw
    exact ⟨a, zs.getD j 0, rfl, h2, hb.1, hb.2, h1⟩
end Go.Proofs.YtogdbfjagnbllaaGreatDoor

namespace Go.Proofs.YtogdbfjagnbllaaGreatDoor
open Go.RowKit Go

theorem big_any (A : Option Addr) (len cap : Nat) (w : World) : Calls Tryz.prog 8 #[.slice A len cap] w fun e w' => e = .returned (.bool (decide (1048576 < (len : Int)))) ∧ w = w' := by
  go_enter Tryz.func8, Tryz.ntmps8
  go_wp2
  go_ret
  exact ⟨rfl, rfl⟩
/-- A byte of the code, or a number that follows from its length. -/
def AByte (w : World) (e : Ending) (w' : World) : Prop := ∃ x : Nat, e = .returned (.int .i64 x) ∧ x ≤ 255 ∧ w = w'
end Go.Proofs.YtogdbfjagnbllaaGreatDoor

namespace Go.Proofs.YtogdbfjagnbllaaGreatDoor
theorem own : ownKnob Tryz.prog.godebug = none := by kernel_rfl
theorem laidOut : laidOutB Tryz.prog = true := by kernel_rfl
end Go.Proofs.YtogdbfjagnbllaaGreatDoor

namespace Go.Proofs.YtogdbfjagnbllaaGreatDoor
open Go.RowKit Go

theorem lt_of_cell_tab {w : World} {a : Addr} {v : Value} (h : w.cell? a = some v) : a.block < w.heap.size := by
  rcases Nat.lt_or_ge a.block w.heap.size with hl | hl
  · exact hl
  · have e : w.heap[a.block]? = none := Array.getElem?_eq_none hl
    simp [World.cell?, e] at h
theorem cells_of_shape {P : Program} {w : World} {g : Nat} {t u : TypeId} {zero : Array Value} {k : IntKind} {n : Nat}
    (h : w.ShapedOpen P) (hg : g < P.globals.size)
    (h0 : ((begin P (fun _ _ => 0) default).world.heap[g]?).bind Obj.row? = some (zero, t)) (hz : zero.size = n)
    (hb : P.buildable t = true) (hc : P.cellTypes P.depth t = some (List.replicate n u)) (hu : P.underlying u = some (.int k)) :
    ∀ i, i < n → ∃ m, w.cell? ⟨g, i, none⟩ = some (.int k m) ∧ k.has m := by
  intro i hi
  obtain ⟨cs, hh, hs, hr⟩ := h.1 g zero t hg h0
  obtain ⟨ts, hts, _, hall⟩ := hr hb
  rw [hc] at hts
  cases hts
  have h1 : i < cs.size := by omega
  obtain ⟨u', hu', hok⟩ := hall i cs[i] (by simp [h1])
  have e : u' = u := by
    rw [List.length_replicate, Nat.mod_eq_of_lt hi, List.getElem?_replicate, if_pos hi] at hu'
    exact (Option.some.inj hu').symm
  subst e
  have hcell : w.cell? ⟨g, i, none⟩ = some cs[i] := by simp [World.cell?, hh, h1]
  rw [hcell]
  unfold Cell.ok at hok
  rw [hu] at hok
  cases hv : cs[i] <;> rw [hv] at hok <;> simp at hok
  case int k' m => exact ⟨m, by rw [hok.1], hok.2⟩

/-- The tables hold numbers of their kinds. -/
def TabsAny (w : World) : Prop :=
  (∀ i, i < 10 → ∃ x : Nat, x < 4294967296 ∧ w.cell? ⟨8, i, none⟩ = some (.int .u32 x)) ∧
  ∀ i, i < 48 → ∃ x : Nat, x < 256 ∧ w.cell? ⟨3, i, none⟩ = some (.int .u8 x)
theorem TabsAny.below {w w' : World} (h : TabsAny w) (hb : Below w.heap.size w w') : TabsAny w' :=
  ⟨fun i hi => by obtain ⟨x, hx, hc⟩ := h.1 i hi; exact ⟨x, hx, (hb.cell (lt_of_cell_tab hc)).trans hc⟩,
   fun i hi => by obtain ⟨x, hx, hc⟩ := h.2 i hi; exact ⟨x, hx, (hb.cell (lt_of_cell_tab hc)).trans hc⟩⟩
theorem zTags : ((begin Tryz.prog (fun _ _ => 0) default).world.heap[8]?).bind Obj.row? = some ((List.replicate 10 (Value.int .u32 0)).toArray, 209) := by kernel_rfl
theorem zCodes : ((begin Tryz.prog (fun _ _ => 0) default).world.heap[3]?).bind Obj.row? = some ((List.replicate 48 (Value.int .u8 0)).toArray, 177) := by kernel_rfl
theorem tabs_of_shape {w : World} (h : w.ShapedOpen Tryz.prog) : TabsAny w := by
  have h1 := cells_of_shape (n := 10) h (of_decide_eq_true (by kernel_rfl)) zTags (by simp) (by kernel_rfl) (by kernel_rfl) Tryz.underlying36
  have h2 := cells_of_shape (n := 48) h (of_decide_eq_true (by kernel_rfl)) zCodes (by simp) (by kernel_rfl) (by kernel_rfl) Tryz.underlying5
  refine ⟨fun i hi => ?_, fun i hi => ?_⟩
  · obtain ⟨m, hc, hm⟩ := h1 i hi
    simp [IntKind.has, IntKind.min, IntKind.max, IntKind.signed, IntKind.bits] at hm
    exact ⟨m.toNat, by omega, by rw [hc]; congr 2; omega⟩
  · obtain ⟨m, hc, hm⟩ := h2 i hi
    simp [IntKind.has, IntKind.min, IntKind.max, IntKind.signed, IntKind.bits] at hm
    exact ⟨m.toNat, by omega, by rw [hc]; congr 2; omega⟩
end Go.Proofs.YtogdbfjagnbllaaGreatDoor

namespace Go.Proofs.YtogdbfjagnbllaaGreatDoor
open Go.RowKit

set_option maxHeartbeats 1000000 in
theorem spec_nameok (s : ByteArray) (hs : s.size ≤ 4611686018427387904) (w : World) : Calls Tryz.prog 131 #[.string s] w fun e w' => e = .returned (.bool (nameOk s)) ∧ w = w' := by
  have HI := Lib.hid (in_any (s.size : Int) 1 24 w)
  by_cases h : 1 ≤ s.size ∧ s.size ≤ 24
  · have hb := Lib.hid (inB_true (x := (s.size : Int)) (a := 1) (b := 24) (by omega) (by omega))
    obtain ⟨v, hv⟩ : ∃ v, nameOk s = v := ⟨_, rfl⟩
    have HY : Hid ((∀ (i : Nat) (h : i < s.size), nameByte s[i] = true) → v = true) := Lib.hid fun h2 => hv ▸ nameOk_yes h.1 h.2 h2
    have HN : Hid (∀ (i : Nat) (h : i < s.size), nameByte s[i] = false → v = false) := Lib.hid fun i hi h2 => hv ▸ nameOk_no hi h2
    rw [hv]
    have h24 := h.2
    clear h hv
    go_enter Tryz.func131, Tryz.ntmps131
    go_wp2_with fail
    refine HI.out.mono ?_
    rintro e w' ⟨he, rfl⟩
    rw [hb.out] at he
    subst he
    go_wp2_with fail
    go_loop [3] (fun i => ∃ k : Nat, k ≤ s.size ∧ i = .int .i64 k ∧ Hid (∀ (j : Nat) (hj : j < s.size), j < k → nameByte s[j] = true)) (fun i => s.size - (intOf i).toNat)
    case atStart => exact ⟨0, by omega, rfl, Lib.hid fun j _ h => by omega⟩
    case round =>
      obtain ⟨k, hk, rfl, HK⟩ := hrel
      by_cases hlt : k < s.size
      · have hck := u8_le s[k]
        have hr := letOf_range s[k]
        have HL : Hid (∀ W, Calls Tryz.prog 150 #[.int .u8 (s[k].toNat : Int)] W fun e w' => e = .returned (.int .i64 (letOf s[k])) ∧ W = w') := Lib.hid fun W => spec_letterof s[k] W
        have HQ : Hid (nameByte s[k] = decide (1 ≤ letOf s[k])) := Lib.hid rfl
        obtain ⟨x, hx⟩ : ∃ x, letOf s[k] = x := ⟨_, rfl⟩
        rw [hx] at hr HL HQ
        clear hx
        obtain ⟨hr0, hr1⟩ := hr
        by_cases he : x < 1
        · have HV := Lib.hid (HN.out k hlt (by rw [HQ.out]; simpa using he))
          go_wp2_with fail
          refine (HL.out _).mono ?_
          rintro e w' ⟨rfl, rfl⟩
          go_wp2_with fail
          go_ret
          exact ⟨by rw [HV.out]; rfl, rfl⟩
        · have HK2 : Hid (∀ (j : Nat) (hj : j < s.size), j < k + 1 → nameByte s[j] = true) := Lib.hid fun j hj h => by
            rcases Nat.lt_or_ge j k with h2 | h2
            · exact HK.out j hj h2
            · obtain rfl : j = k := by omega
              rw [HQ.out]
              simp; omega
          go_wp2_with fail
          refine (HL.out _).mono ?_
          rintro e w' ⟨rfl, rfl⟩
          go_wp2_with fail
          go_round
          case rel => exact ⟨k + 1, by omega, by go_num, HK2⟩
          case measure => simp [intOf]; omega
      · have HV := Lib.hid (HY.out fun j hj => HK.out j hj (by omega))
        go_wp2
        go_ret
        exact ⟨by rw [HV.out]; rfl, rfl⟩
  · rw [nameOk_size h]
    have hb := Lib.hid (inB_false (x := (s.size : Int)) (a := 1) (b := 24) (by omega))
    clear h
    go_enter Tryz.func131, Tryz.ntmps131
    go_wp2_with fail
    refine HI.out.mono ?_
    rintro e w' ⟨he, rfl⟩
    rw [hb.out] at he
    subst he
    go_wp2_with fail
    go_ret
    exact ⟨rfl, rfl⟩

set_option maxHeartbeats 1000000 in
theorem impl_nameok (s : ByteArray) (hs : s.size ≤ 4611686018427387904) (w : World) : Calls Tryz.prog 166 #[.string s] w fun e w' => e = .returned (.bool (nameOk s)) ∧ w = w' := by
  obtain ⟨v, hv⟩ : ∃ v, nameOk s = v := ⟨_, rfl⟩
  have HY : Hid (1 ≤ s.size → s.size ≤ 24 → (∀ (i : Nat) (h : i < s.size), nameByte s[i] = true) → v = true) := Lib.hid fun h0 h1 h2 => hv ▸ nameOk_yes h0 h1 h2
  have HN : Hid (∀ (i : Nat) (h : i < s.size), nameByte s[i] = false → v = false) := Lib.hid fun i hi h2 => hv ▸ nameOk_no hi h2
  have HZ : Hid (¬ (1 ≤ s.size ∧ s.size ≤ 24) → v = false) := Lib.hid fun h => hv ▸ nameOk_size h
  rw [hv]
  clear hv
  go_enter Tryz.func166, Tryz.ntmps166
  go_wp2_with fail
  refine wp_scope_jumps 0 (fun a' w' => w' = w ∧ v = false ∧ ∃ u0 u1 u2 u3 u4 u5 u6 u7 u8 u9 u10 u11 u12 u13 u14 u15 u16 u17 u18 u19 u20 u21 u22 u23 u24 u25 u26 u27 : Value, a' = { tmps := #[u0, u1, u2, u3, u4, u5, u6, u7, u8, u9, u10, u11, u12, u13, u14, u15, u16, u17, u18, u19, u20, u21, u22, u23, u24, u25, u26, u27], defers := [] }) (fun _ _ => 0) rfl ?_ ?_
  · by_cases h0 : s.size = 0
    · obtain rfl : s = ⟨#[]⟩ := by
        apply ByteArray.ext
        apply Array.ext'
        exact List.length_eq_zero_iff.1 (by simpa using h0)
      have HV := HZ.out (by omega)
      clear h0 hs HY HN HZ
      go_wp2
      go_step3
      exact ⟨rfl, rfl, HV, _, _, _, _, _, _, _, _, _, _, _, _, _, _, _, _, _, _, _, _, _, _, _, _, _, _, _, _, rfl⟩
    · have e1 : s.toList.isEmpty = false := by
        rw [ByteArray.toList_eq]
        simp
        intro h
        exact h0 (by show s.data.size = 0; rw [h]; rfl)
      by_cases h : s.size ≤ 24
      · have HY2 := Lib.hid (HY.out (by omega) h)
        have h1 : 0 < s.size := by omega
        clear h0 HZ HY
        go_wp2_with fail
        go_loop [13] (fun i => ∃ k : Nat, k ≤ s.size ∧ i = .int .i64 k ∧ Hid (∀ (j : Nat) (hj : j < s.size), j < k → nameByte s[j] = true)) (fun i => s.size - (intOf i).toNat)
        case atStart => exact ⟨0, by omega, rfl, Lib.hid fun j _ h => by omega⟩
        case round =>
          obtain ⟨k, hk, rfl, HK⟩ := hrel
          by_cases hlt : k < s.size
          · have hck := u8_le s[k]
            have hr := letOf_range s[k]
            have HL : Hid (∀ W, Calls Tryz.prog 170 #[.int .u8 (s[k].toNat : Int)] W fun e w' => e = .returned (.int .i64 (letOf s[k])) ∧ W = w') := Lib.hid fun W => impl_letterof s[k] W
            have HQ : Hid (nameByte s[k] = decide (1 ≤ letOf s[k])) := Lib.hid rfl
            have HB : Hid (s[k] = 32 → letOf s[k] = 0) := Lib.hid fun h => by rw [h]; exact letOf_blank
            have HB2 : Hid (letOf s[k] = 0 → s[k] = 32) := Lib.hid letOf_zero
            obtain ⟨x, hx⟩ : ∃ x, letOf s[k] = x := ⟨_, rfl⟩
            rw [hx] at hr HL HQ HB HB2
            clear hx
            obtain ⟨hr0, hr1⟩ := hr
            by_cases he : x < 0
            · have HV := Lib.hid (HN.out k hlt (by rw [HQ.out]; simp; omega))
              go_wp2_with fail
              refine (HL.out _).mono ?_
              rintro e w' ⟨rfl, rfl⟩
              go_wp2_with fail
              go_step3
              exact ⟨rfl, rfl, HV.out, _, _, _, _, _, _, _, _, _, _, _, _, _, _, _, _, _, _, _, _, _, _, _, _, _, _, _, _, rfl⟩
            · by_cases hb : s[k] = 32
              · have hb' : ((s[k].toNat : Int) == 32) = true := by rw [hb]; rfl
                have HV := Lib.hid (HN.out k hlt (by rw [HQ.out, HB.out hb]; rfl))
                have he2 : 0 ≤ x := by omega
                clear hb he
                go_wp2_with fail
                refine (HL.out _).mono ?_
                rintro e w' ⟨rfl, rfl⟩
                go_wp2_with fail
                go_step3
                exact ⟨rfl, rfl, HV.out, _, _, _, _, _, _, _, _, _, _, _, _, _, _, _, _, _, _, _, _, _, _, _, _, _, _, _, _, rfl⟩
              · have hb' : ((s[k].toNat : Int) == 32) = false := u8_ne (b := 32) hb
                have hx1 : 1 ≤ x := by
                  rcases Int.lt_or_le x 1 with h2 | h2
                  · exact absurd (HB2.out (by omega)) hb
                  · exact h2
                have HK2 : Hid (∀ (j : Nat) (hj : j < s.size), j < k + 1 → nameByte s[j] = true) := Lib.hid fun j hj h => by
                  rcases Nat.lt_or_ge j k with h2 | h2
                  · exact HK.out j hj h2
                  · obtain rfl : j = k := by omega
                    rw [HQ.out]
                    simp; omega
                clear hb he
                go_wp2_with fail
                refine (HL.out _).mono ?_
                rintro e w' ⟨rfl, rfl⟩
                go_wp2_with fail
                go_round
                case rel => exact ⟨k + 1, by omega, by go_num, HK2⟩
                case measure => simp [intOf]; omega
          · have HV := Lib.hid (HY2.out fun j hj => HK.out j hj (by omega))
            go_wp2
            simp only [Exit.jump]
            go_ret
            exact ⟨by rw [HV.out]; rfl, rfl⟩
      · have HV := Lib.hid (HZ.out (by omega))
        clear h0 HY HN HZ
        go_wp2_with fail
        go_step3
        exact ⟨rfl, rfl, HV.out, _, _, _, _, _, _, _, _, _, _, _, _, _, _, _, _, _, _, _, _, _, _, _, _, _, _, _, _, rfl⟩
  · rintro a' w' ⟨rfl, rfl, u0, u1, u2, u3, u4, u5, u6, u7, u8, u9, u10, u11, u12, u13, u14, u15, u16, u17, u18, u19, u20, u21, u22, u23, u24, u25, u26, u27, rfl⟩
    go_wp2_with fail
    simp only [Exit.jump]
    go_ret
    exact ⟨rfl, rfl⟩
end Go.Proofs.YtogdbfjagnbllaaGreatDoor

namespace Go.Proofs.YtogdbfjagnbllaaGreatDoor
open Go.RowKit

theorem bitsOf_range (k : Int) : 0 ≤ bitsOf k ∧ bitsOf k ≤ 127 := by
  unfold bitsOf
  by_cases h0 : k < 0
  · rw [if_pos h0]; omega
  · rw [if_neg h0]
    by_cases h1 : k < 8
    · rw [if_pos h1]; omega
    · rw [if_neg h1]
      by_cases h2 : k < 16
      · rw [if_pos h2]; omega
      · rw [if_neg h2]
        by_cases h3 : k < 48
        · rw [if_pos h3]; omega
        · rw [if_neg h3]; omega

theorem spec_bitsof (k : Int) (w : World) : Calls Tryz.prog 139 #[.int .i64 k] w fun e w' => e = .returned (.int .u32 (bitsOf k)) ∧ w = w' := by
  have HW := Lib.hid (spec_widthof k w)
  have four : widthOf k = 0 ∨ widthOf k = 4 ∨ widthOf k = 5 ∨ widthOf k = 7 := by
    unfold widthOf
    split
    · exact .inl rfl
    · split
      · exact .inr (.inl rfl)
      · split
        · exact .inr (.inr (.inl rfl))
        · split
          · exact .inr (.inr (.inr rfl))
          · exact .inl rfl
  have both : (widthOf k = 0 → bitsOf k = 0) ∧ (widthOf k = 4 → 0 ≤ k ∧ k < 8 ∧ bitsOf k = k) ∧ (widthOf k = 5 → 8 ≤ k ∧ k < 16 ∧ bitsOf k = k + 8) ∧ (widthOf k = 7 → 16 ≤ k ∧ k < 48 ∧ bitsOf k = k + 80) := by
    unfold widthOf bitsOf
    split
    · simp
    · split
      · simp; omega
      · split
        · simp; omega
        · split
          · simp; omega
          · simp
  rcases four with h | h | h | h
  · rw [both.1 h]
    rw [h] at HW
    clear both h
    go_enter Tryz.func139, Tryz.ntmps139
    go_wp2_with fail
    refine HW.out.mono ?_
    rintro e w' ⟨rfl, rfl⟩
    go_wp2_with fail
    go_ret
    exact ⟨rfl, rfl⟩
  · obtain ⟨h5, h6, h7⟩ := both.2.1 h
    rw [h7]
    rw [h] at HW
    clear both h h7
    go_enter Tryz.func139, Tryz.ntmps139
    go_wp2_with fail
    refine HW.out.mono ?_
    rintro e w' ⟨rfl, rfl⟩
    go_wp2_with fail
    go_ret
    exact ⟨rfl, rfl⟩
  · obtain ⟨h5, h6, h7⟩ := both.2.2.1 h
    rw [h7]
    rw [h] at HW
    clear both h h7
    go_enter Tryz.func139, Tryz.ntmps139
    go_wp2_with fail
    refine HW.out.mono ?_
    rintro e w' ⟨rfl, rfl⟩
    go_wp2_with fail
    go_ret
    exact ⟨rfl, rfl⟩
  · obtain ⟨h5, h6, h7⟩ := both.2.2.2 h
    rw [h7]
    rw [h] at HW
    clear both h h7
    go_enter Tryz.func139, Tryz.ntmps139
    go_wp2_with fail
    refine HW.out.mono ?_
    rintro e w' ⟨rfl, rfl⟩
    go_wp2_with fail
    go_ret
    exact ⟨rfl, rfl⟩
end Go.Proofs.YtogdbfjagnbllaaGreatDoor

namespace Go.Proofs.YtogdbfjagnbllaaGreatDoor
open Go.RowKit Go

/-- A list of bytes that can be read. -/
def RdB (w : World) (v : Value) (l : List UInt8) : Prop :=
  ∃ (A : Option Addr) (cap : Nat), v = .slice A l.length cap ∧ l.length ≤ cap ∧ l.length ≤ 4611686018427387904 ∧ ∀ i (h : i < l.length), ∃ a, A = some a ∧ a.block < w.heap.size ∧ w.cell? (a.add i) = some (.int .u8 (l[i].toNat : Int))
theorem RdB.below {w w' : World} {v : Value} {l : List UInt8} (h : RdB w v l) (hb : Below w.heap.size w w') : RdB w' v l := by
  obtain ⟨A, cap, rfl, hl, hc, h⟩ := h
  refine ⟨A, cap, rfl, hl, hc, fun i hi => ?_⟩
  obtain ⟨a, rfl, e2, e3⟩ := h i hi
  exact ⟨a, rfl, Nat.lt_of_lt_of_le e2 hb.size, (hb.cell (by rw [addr_addb]; exact e2)).trans e3⟩
theorem RdB.grown {w w' : World} {v : Value} {l : List UInt8} {row : Option Nat} (h : RdB w v l) (hg : w.grownBy w' row) (hr : ∀ A n c k, v = .slice (some A) n c → row = some k → A.block ≠ k) : RdB w' v l := by
  obtain ⟨A, cap, rfl, hl, hc, h⟩ := h
  refine ⟨A, cap, rfl, hl, hc, fun i hi => ?_⟩
  obtain ⟨a, rfl, e2, e3⟩ := h i hi
  refine ⟨a, rfl, Nat.lt_of_lt_of_le e2 hg.size, (World.cell?_of_block (hg.block _ (by rw [addr_addb]; exact e2) (fun e => ?_))).trans e3⟩
  rw [addr_addb] at e
  exact hr a _ _ _ rfl e.symm rfl
theorem addr_add2 (a : Addr) (m n : Nat) : (a.add m).add n = a.add (m + n) := by
  unfold Addr.add
  by_cases h1 : m = 0
  · subst h1; simp
  · by_cases h2 : n = 0
    · subst h2; simp
    · rw [if_neg h1, if_neg h2, if_neg (by omega)]; simp [Nat.add_assoc]
theorem RdB.drop {w : World} {A : Option Addr} {n cap : Nat} {l : List UInt8} (h : RdB w (.slice A n cap) l) (k : Nat) (hk : k ≤ l.length) : RdB w (.slice (if cap = k then A else A.map (·.add k)) (l.length - k) (cap - k)) (l.drop k) := by
  obtain ⟨A', cap', e, hl, hc, h⟩ := h
  injection e with e1 e2 e3
  subst e1 e2 e3
  refine ⟨_, _, by rw [List.length_drop], by rw [List.length_drop]; omega, by rw [List.length_drop]; omega, fun i hi => ?_⟩
  rw [List.length_drop] at hi
  obtain ⟨a, rfl, e2, e3⟩ := h (k + i) (by omega)
  rw [if_neg (by omega)]
  refine ⟨a.add k, rfl, by rw [addr_addb]; exact e2, ?_⟩
  rw [addr_add2, e3, List.getElem_drop]
def drops (s : ByteArray) (n : Nat) : List UInt8 := s.data.toList.drop n
theorem drops_cons (s : ByteArray) (n : Nat) (h : n < s.size) : drops s n = s[n] :: drops s (n + 1) := List.drop_eq_getElem_cons (l := s.data.toList) h
theorem drops_end (s : ByteArray) (n : Nat) (h : s.size ≤ n) : drops s n = [] := List.drop_eq_nil_of_le (show s.data.toList.length ≤ n from h)

/-- Where packing stands: n letters lie in F, 'free' bits are left. -/
structure Fill (l : List UInt8) (F free n : Nat) : Prop where
  le : free ≤ 28
  nle : n ≤ l.length
  eq : fillN 28 l = (F + (fillN free (l.drop n)).1, n + (fillN free (l.drop n)).2)
  mod : F % 2 ^ free = 0
theorem Fill.start (l : List UInt8) : Fill l 0 28 0 := ⟨Nat.le_refl _, Nat.zero_le _, by simp, rfl⟩
theorem Fill.lt {l : List UInt8} {F free n : Nat} (h : Fill l F free n) : F < 2 ^ 28 := by
  have h1 := fillN_lt l 28
  rw [h.eq] at h1
  exact Nat.lt_of_le_of_lt (Nat.le_add_right _ _) h1
theorem Fill.done {l : List UInt8} {F free n : Nat} (h : Fill l F free n) (hn : n = l.length) : fillN 28 l = (F, n) := by
  rw [h.eq, List.drop_eq_nil_of_le (by omega), fillN_nil]
  rfl
theorem Fill.full {l : List UInt8} {F free n : Nat} (h : Fill l F free n) (hn : n < l.length) (hw : free < wB l[n]) : fillN 28 l = (F, n) := by
  rw [h.eq, List.drop_eq_getElem_cons hn, fillN_stop hw]
  rfl
theorem Fill.more {l : List UInt8} {F free n : Nat} (h : Fill l F free n) (hn : n < l.length) (hw : wB l[n] ≤ free) : Fill l (F + bB l[n] * 2 ^ (free - wB l[n])) (free - wB l[n]) (n + 1) := by
  refine ⟨by have := h.le; omega, hn, ?_, ?_⟩
  · rw [h.eq, List.drop_eq_getElem_cons hn, fillN_go hw]
    exact Prod.ext (Nat.add_assoc _ _ _).symm (by show n + (_ + 1) = n + 1 + _; omega)
  · have hd : 2 ^ (free - wB l[n]) ∣ F := Nat.dvd_trans (Nat.pow_dvd_pow 2 (by omega)) (Nat.dvd_of_mod_eq_zero h.mod)
    exact Nat.mod_eq_zero_of_dvd (Nat.dvd_add hd (Nat.dvd_mul_left _ _))
theorem fit_lt {b w free : Nat} (hb : b < 2 ^ w) (hw : w ≤ free) : b * 2 ^ (free - w) < 2 ^ free := by
  have e : (2 : Nat) ^ free = 2 ^ w * 2 ^ (free - w) := by rw [← Nat.pow_add, show w + (free - w) = free by omega]
  rw [e]
  exact Nat.mul_lt_mul_of_pos_right hb (Nat.two_pow_pos _)
theorem shl_cast (b e : Nat) : (b : Int) * 2 ^ e = ((b * 2 ^ e : Nat) : Int) := by push_cast; rfl
theorem or_fit {F b w free : Nat} (hF : F < 2 ^ 28) (hm : F % 2 ^ free = 0) (hb : b < 2 ^ w) (hw : w ≤ free) (h28 : free ≤ 28) :
    bits .or .u32 (F : Int) ((b : Int) * 2 ^ (free - w) % 4294967296) = ((F + b * 2 ^ (free - w) : Nat) : Int) := by
  have h1 := fit_lt hb hw
  have h2 : 2 ^ free ≤ 2 ^ 28 := Nat.pow_le_pow_right (by decide) h28
  have e1 : (b : Int) * 2 ^ (free - w) % 4294967296 = ((b * 2 ^ (free - w) : Nat) : Int) := by
    rw [shl_cast]
    omega
  obtain ⟨q, hq⟩ := Nat.dvd_of_mod_eq_zero hm
  rw [e1, bitsor_u32 _ _ (by omega) (by omega)]
  congr 1
  rw [hq, ← Nat.two_pow_add_eq_or_of_lt h1]
theorem add_fit {l : List UInt8} {F free n : Nat} (h : Fill l F free n) (hn : n < l.length) (hw : wB l[n] ≤ free) : wrap64 ((F : Int) + wrap64 ((bB l[n] : Int) * 2 ^ (free - wB l[n]))) = ((F + bB l[n] * 2 ^ (free - wB l[n]) : Nat) : Int) := by
  have h1 := fit_lt (bB_lt l[n]) hw
  have h2 : 2 ^ free ≤ 2 ^ 28 := Nat.pow_le_pow_right (by decide) h.le
  have h3 := h.lt
  rw [shl_cast]
  unfold wrap64
  omega

theorem grown_nil_le (s : ByteArray) : s.data.toList.length = s.size := rfl
/-- The bytes of a text, laid anew. -/
theorem rdb_bytes (w : World) (e : TypeId) (s : ByteArray) (hs : s.size ≤ 4611686018427387904) (fr : Nat × Nat) : RdB (w.drew.alloc (.cells (bytesRow s (grownCap w s.size 0 e)) e fr)) (.slice (some ⟨w.heap.size, 0, none⟩) s.size (grownCap w s.size 0 e)) s.data.toList := by
  refine ⟨_, _, rfl, grownCap_ge _ _ _ _, hs, fun i hi => ⟨_, rfl, by simp, ?_⟩⟩
  rw [addr_lit, Nat.zero_add]
  have h1 := World.cell?_alloc_mark w.drew (bytesRow s (grownCap w s.size 0 e)) e fr i
  have h2 : w.drew.heap.size = w.heap.size := rfl
  rw [h2] at h1
  rw [h1, bytesRow_at s _ i hi]
  rfl

set_option maxHeartbeats 1000000 in
theorem spec_l03one (s : ByteArray) (hs : s.size ≤ 4611686018427387904) (w : World) :
    Calls Tryz.prog 132 #[.string s] w fun e w' => e = .returned (.tuple #[.int .u32 ((fillN 28 s.data.toList).1 : Int), .int .i64 ((fillN 28 s.data.toList).2 : Int)]) ∧ w = w' := by
  obtain ⟨p, q, hpq⟩ : ∃ p q, fillN 28 s.data.toList = (p, q) := ⟨_, _, rfl⟩
  obtain ⟨l, hl⟩ : ∃ l, s.data.toList = l := ⟨_, rfl⟩
  have hln : l.length = s.size := by rw [← hl]; rfl
  have hat : ∀ n (h : n < l.length), l[n] = s[n]'(by omega) := fun n h => by subst hl; rfl
  rw [hl] at hpq
  rw [hl, hpq]
  have HD : Hid (∀ F free n, Fill l F free n → n = l.length → p = F ∧ q = n) := Lib.hid fun F free n h e => by
    rw [h.done e] at hpq; injection hpq with e1 e2; exact ⟨e1.symm, e2.symm⟩
  have HF : Hid (∀ F free n (h : Fill l F free n) (hn : n < l.length), free < wB l[n] → p = F ∧ q = n) := Lib.hid fun F free n h hn e => by
    rw [h.full hn e] at hpq; injection hpq with e1 e2; exact ⟨e1.symm, e2.symm⟩
  have HAT := Lib.hid hat
  clear hpq hl hat
  go_enter Tryz.func132, Tryz.ntmps132
  go_wp2
  go_loop [4, 5, 6] (fun vf vl vn => ∃ F free n : Nat, vf = .int .i64 F ∧ vl = .int .i64 free ∧ vn = .int .i64 n ∧ Hid (Fill l F free n)) (fun _ _ vn => l.length - (intOf vn).toNat)
  case atStart => exact ⟨0, 28, 0, rfl, rfl, rfl, Lib.hid (Fill.start l)⟩
  case round =>
    obtain ⟨F, free, n, rfl, rfl, rfl, HR⟩ := hrel
    have hn := HR.out.nle
    have h28 := HR.out.le
    have hlt := HR.out.lt
    by_cases hp : n < l.length
    · have hp' : n < s.size := by omega
      have hck := u8_le s[n]
      have hw := wB_le l[n]
      have HL : Hid (∀ W, Calls Tryz.prog 150 #[.int .u8 (s[n].toNat : Int)] W fun e w' => e = .returned (.int .i64 (letOf l[n])) ∧ W = w') := Lib.hid fun W => by rw [HAT.out n hp]; exact spec_letterof s[n] W
      have HW : Hid (∀ W, Calls Tryz.prog 138 #[.int .i64 (letOf l[n])] W fun e w' => e = .returned (.int .i64 (wB l[n] : Int)) ∧ W = w') := Lib.hid fun W => by rw [wB_int]; exact spec_widthof _ W
      have HB : Hid (∀ W, Calls Tryz.prog 139 #[.int .i64 (letOf l[n])] W fun e w' => e = .returned (.int .u32 (bB l[n] : Int)) ∧ W = w') := Lib.hid fun W => by rw [bB_int]; exact spec_bitsof _ W
      have hbl := bB_le l[n]
      have hFull := HF.out F free n HR.out hp
      have hMore := HR.out.more hp
      have hAdd := add_fit HR.out hp
      have HLr := letOf_range l[n]
      obtain ⟨z, hz⟩ : ∃ z, letOf l[n] = z := ⟨_, rfl⟩
      obtain ⟨d, hd⟩ : ∃ d, wB l[n] = d := ⟨_, rfl⟩
      obtain ⟨b, hb⟩ : ∃ b, bB l[n] = b := ⟨_, rfl⟩
      rw [hz] at HL HW HB HLr
      rw [hd] at HW hFull hMore hAdd hw
      rw [hb] at HB hMore hAdd hbl
      have HFULL := Lib.hid hFull
      have HMORE := Lib.hid hMore
      have HADD := Lib.hid hAdd
      clear hz hd hb hFull hMore hAdd
      by_cases hfit : d ≤ free
      · have hA := HADD.out hfit
        obtain ⟨F2, hF2⟩ : ∃ F2, F + b * 2 ^ (free - d) = F2 := ⟨_, rfl⟩
        have HM := HMORE.out hfit
        rw [hF2] at hA HM
        have HM := Lib.hid HM
        have hgt : decide ((free : Int) < (d : Int)) = false := by simp; omega
        have hnn : (0 : Int) ≤ (free : Int) - (d : Int) := by omega
        clear hF2
        go_wp2_with fail
        refine (HL.out _).mono ?_
        rintro e w' ⟨rfl, rfl⟩
        go_wp2_with fail
        refine (HW.out _).mono ?_
        rintro e w' ⟨rfl, rfl⟩
        go_wp2_with fail
        refine (HB.out _).mono ?_
        rintro e w' ⟨rfl, rfl⟩
        go_wp2_with fail
        go_round
        case rel => exact ⟨F2, free - d, n + 1, by go_num, by go_num, by go_num, HM⟩
        case measure => simp [intOf]; omega
      · have hgt : free < d := by omega
        have HQ := Lib.hid (HFULL.out (by omega))
        clear hfit
        go_wp2_with fail
        refine (HL.out _).mono ?_
        rintro e w' ⟨rfl, rfl⟩
        go_wp2_with fail
        refine (HW.out _).mono ?_
        rintro e w' ⟨rfl, rfl⟩
        go_wp2_with fail
        obtain ⟨rfl, rfl⟩ := HQ.out
        go_ret2
        exact ⟨rfl, rfl⟩
    · have HQ := Lib.hid (HD.out F free n HR.out (by omega))
      go_wp2_with fail
      obtain ⟨rfl, rfl⟩ := HQ.out
      go_ret2
      exact ⟨rfl, rfl⟩
end Go.Proofs.YtogdbfjagnbllaaGreatDoor

namespace Go.Proofs.YtogdbfjagnbllaaGreatDoor
open Go.RowKit Go

theorem infoU32 : (Tryz.prog.info? 36).map (fun i => (i.zero, i.size, i.bytes)) = some (some (.int .u32 0), 1, 4) := by kernel_rfl
def copied (xs : List Nat) (i : Nat) : List Nat := xs.take i ++ List.replicate (xs.length - i) 0
theorem copied_len (xs : List Nat) (i : Nat) (h : i ≤ xs.length) : (copied xs i).length = xs.length := by simp [copied]; omega
theorem copied_zero (xs : List Nat) : (copied xs 0).map u32v = List.replicate xs.length (.int .u32 0) := by simp [copied, u32v]
theorem copied_full (xs : List Nat) : copied xs xs.length = xs := by simp [copied]
theorem copied_set {xs : List Nat} {i : Nat} (h : i < xs.length) : ((copied xs i).map u32v).set i (.int .u32 (xs[i] : Int)) = (copied xs (i + 1)).map u32v := by
  have e : Value.int .u32 (xs[i] : Int) = u32v xs[i] := rfl
  rw [e, List.map_set.symm]
  congr 1
  unfold copied
  obtain ⟨m, hm⟩ : ∃ m, xs.length - i = m + 1 := ⟨xs.length - i - 1, by omega⟩
  rw [hm, show xs.length - (i + 1) = m by omega, List.replicate_succ, List.set_append_right _ _ (by simp; omega)]
  have : i - (xs.take i).length = 0 := by simp; omega
  rw [this, List.set_cons_zero, List.take_succ_eq_append_getElem h, List.append_assoc]
  rfl

end Go.Proofs.YtogdbfjagnbllaaGreatDoor
