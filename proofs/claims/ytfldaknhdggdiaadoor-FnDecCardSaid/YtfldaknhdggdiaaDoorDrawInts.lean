/-
  The model's draws: a number of a list is picked, a word of 32 bits is drawn.
-/
import Derived.Test.YtfldaknhdggdiaaDoorDrawMore
namespace Go.Proofs.YtfldaknhdggdiaaDoor
open Go.RowKit

/-- A block of numbers. -/
def IntsAt (w : World) (b : Nat) (zs : List Int) : Prop := ∀ j (h : j < zs.length), w.cell? ⟨b, j, none⟩ = some (.int .i64 zs[j])
theorem ints_new (w : World) (t : TypeId) (zs : List Int) : IntsAt (w.alloc (.cells (zs.map (Value.int .i64)).toArray t)) w.heap.size zs := fun j h => by
  rw [(Blk.new w t _).cell]
  simp [h]
def Picked (g : Nat) (w : World) (zs : List Int) (e : Ending) (w' : World) : Prop := ∃ x : Int, e = .returned (.int .i64 x) ∧ x ∈ zs ∧ CurAt w' g ∧ w.grownBy w' (some g)
theorem pickint_any (g b : Nat) (zs : List Int) (w : World) (hc : CurAt w g) (hl : IntsAt w b zs) (hb : b ≠ g) (hblt : b < w.heap.size) (hn : 1 ≤ zs.length) (hn2 : zs.length ≤ 1000) :
    Calls Tryd.prog 20 #[.pointer (some ⟨g, 0, none⟩), .slice (some ⟨b, 0, none⟩) zs.length zs.length] w (Picked g w zs) := by
  have HC := Lib.hid (below_any g (zs.length : Int) (by omega) (by omega) w hc)
  have HL := Lib.hid hl
  have HN := Lib.hid hb
  clear hc hl hb
  go_enter Tryd.func20, Tryd.ntmps20
  go_wp2_with fail
  refine HC.out.mono ?_
  rintro e w1 ⟨x, rfl, ⟨hx0, hx1⟩, hc1, hg1⟩
  rw [if_neg (by omega)] at hx1
  obtain ⟨j, rfl⟩ : ∃ j : Nat, x = j := ⟨x.toNat, by omega⟩
  have hj : j < zs.length := by omega
  have hcell : w1.cell? ⟨b, j, none⟩ = some (.int .i64 zs[j]) := (World.cell?_of_block (hg1.block b hblt (fun e => HN.out (by injection e)))).trans (HL.out j hj)
  have HG := Lib.hid hg1
  go_wp2_with fail
  go_ret
  exact ⟨zs[j], rfl, List.getElem_mem _, hc1, HG.out⟩

def DrewWord (g : Nat) (w : World) (e : Ending) (w' : World) : Prop := ∃ x : Nat, e = .returned (.int .u32 x) ∧ x < 4294967296 ∧ CurAt w' g ∧ w.grownBy w' (some g)
theorem u32_nat (x : Int) : ∃ n : Nat, IntKind.u32.wrap x = (n : Int) ∧ n < 4294967296 := ⟨(x % 4294967296).toNat, by rw [IntKind.wrap_u32]; omega, by omega⟩

theorem ret_u32 {a b : Int} (h : a = b) : Ending.returned (.int .u32 a) = .returned (.int .u32 b) := by rw [h]
set_option maxHeartbeats 2000000 in
theorem word_any (g : Nat) (w : World) (hc : CurAt w g) : Calls Tryd.prog 24 #[.pointer (some ⟨g, 0, none⟩)] w (DrewWord g w) := by
  have hglt : g < w.heap.size := by obtain ⟨_, _, _, _, _, hb, _⟩ := hc; exact hb.lt
  have HC := Lib.hid (below_any g 4 (by omega) (by omega) w hc)
  clear hc
  go_enter Tryd.func24, Tryd.ntmps24
  go_wp2_with fail
  refine HC.out.mono ?_
  rintro e w1 ⟨x, rfl, ⟨hx0, hx1⟩, hc1, hg1⟩
  have hglt1 : g < w1.heap.size := by have := hg1.size; omega
  have HG := Lib.hid hg1
  clear hg1
  by_cases h0 : x = 0
  · have h0' : (x == 0) = true := by simpa using h0
    clear h0
    go_wp2_with fail
    refine (pickint_any g w1.heap.size [0, 1, 2, 31, 32, 255, 256, 2147483647, 2147483648, 4294967295, 4294967294] _ (hc1.grown (World.grownBy_alloc w1 _ none) (fun _ h => by cases h)) (ints_new w1 3 [0, 1, 2, 31, 32, 255, 256, 2147483647, 2147483648, 4294967295, 4294967294]) (by omega) (by simp) (by decide) (by decide)).mono ?_
    rintro e w2 ⟨y, rfl, -, hc2, hg2⟩
    obtain ⟨n, hn, hnb⟩ := u32_nat y
    have HG2 := Lib.hid hg2
    have HNB := Lib.hid hnb
    clear hg2 hnb
    go_wp2_with fail
    go_ret
    exact ⟨n, rfl, HNB.out, hc2, only_trans (only_alloc HG.out _) HG2.out⟩
  · have h0' : (x == 0) = false := by simpa using h0
    by_cases h1 : x = 1
    · have h1' : (x == 1) = true := by simpa using h1
      clear h0 h1
      go_wp2_with fail
      refine (below_any g 300 (by omega) (by omega) _ hc1).mono ?_
      rintro e w2 ⟨y, rfl, ⟨hy0, hy1⟩, hc2, hg2⟩
      have hy2 : y ≤ 299 := by simpa using hy1
      obtain ⟨n, rfl⟩ : ∃ n : Nat, y = n := ⟨y.toNat, by omega⟩
      have HG2 := Lib.hid hg2
      clear hg2 hy1
      go_wp2_with fail
      go_ret
      exact ⟨n, rfl, by omega, hc2, only_trans HG.out HG2.out⟩
    · have h1' : (x == 1) = false := by simpa using h1
      clear h0 h1
      go_wp2_with fail
      refine (below_any g 65536 (by omega) (by omega) _ hc1).mono ?_
      rintro e w2 ⟨y, rfl, ⟨hy0, hy1⟩, hc2, hg2⟩
      have hy2 : y ≤ 65535 := by simpa using hy1
      have HG2 := Lib.hid hg2
      clear hg2 hy1
      go_wp2_with fail
      refine (below_any g 65536 (by omega) (by omega) _ hc2).mono ?_
      rintro e w3 ⟨z, rfl, ⟨hz0, hz1⟩, hc3, hg3⟩
      have hz2 : z ≤ 65535 := by simpa using hz1
      have HG3 := Lib.hid hg3
      clear hg3 hz1
      go_wp2_with fail
      go_ret
      exact ⟨(y * 65536 + z).toNat, ret_u32 (by omega), by omega, hc3, only_trans (only_trans HG.out HG2.out) HG3.out⟩
end Go.Proofs.YtfldaknhdggdiaaDoor
