/-
  The cells of a variable: how many there are, whatever the tables hold.
-/
import Derived.Test.YtllhcdkbgknjdaaCellsNum
namespace Go.Proofs.Ytllhcdkbgknjdaa
open Go.RowKit Go

theorem var_box {w w' : World} {k n : Int} {nm : ByteArray} {t : TypeId} (hB : Below (w.heap.size + 1) (w.alloc (.cells #[.int .i64 k, .string nm, .int .i32 n] t)) w') :
    w'.cell? ⟨w.heap.size, 0, none⟩ = some (.int .i64 k) ∧ w'.cell? ⟨w.heap.size, 1, none⟩ = some (.string nm) ∧ w'.cell? ⟨w.heap.size, 2, none⟩ = some (.int .i32 n) ∧ Below w.heap.size w w' := by
  have h := (Blk.new w t #[.int .i64 k, .string nm, .int .i32 n]).below hB (by omega)
  exact ⟨h.cell 0, h.cell 1, h.cell 2, ((Below.refl _ _).alloc (Nat.le_refl _) _).trans (hB.mono (by omega))⟩
/-- A list of one number. -/
theorem own_one {w : World} {base : Nat} {v : Value} {zs : List Nat} (h : w.ownsRow base 24 1 v zs.length (zs.map u32v)) (h1 : zs.length = 1) : ∃ (g cap z : Nat), v = .slice (some ⟨g, 0, none⟩) 1 cap ∧ w.cell? ⟨g, 0, none⟩ = some (.int .u32 (z : Int)) ∧ g < w.heap.size := by
  match zs, h1 with
  | [z], _ =>
    rcases h.2 with ⟨_, h0⟩ | ⟨g, cap, cur, rfl, hb, hg, hn, hm, hsz, ht⟩
    · simp at h0
    · refine ⟨g, cap, z, rfl, ?_, (Array.getElem?_eq_some_iff.1 hg).1⟩
      rw [cell_of_row w g 0 cur 24 (0, 0) hg]
      have h2 := congrArg (·[0]?) ht
      simpa [List.getElem?_take, u32v] using h2

theorem own_slice {w : World} {base : Nat} {e : TypeId} {size : Nat} {v : Value} {n : Nat} {xs : List Value} (h : w.ownsRow base e size v n xs) : ∃ A cap, v = .slice A n cap := by
  rcases h.2 with ⟨rfl, rfl⟩ | ⟨g, cap, cur, rfl, _⟩
  · exact ⟨_, _, rfl⟩
  · exact ⟨_, _, rfl⟩
theorem var_keep {w w1 w2 : World} {k n : Int} {nm : ByteArray} {t : TypeId} {g : Nat} {z : Int} (h1 : Below (w.heap.size + 1) (w.alloc (.cells #[.int .i64 k, .string nm, .int .i32 n] t)) w1) (hs : w.heap.size + 1 ≤ w1.heap.size) (hg : g < w1.heap.size)
    (hc : w1.cell? ⟨g, 0, none⟩ = some (.int .u32 z)) (h2 : Below w1.drew.heap.size w1.drew w2) : w2.cell? ⟨w.heap.size, 0, none⟩ = some (.int .i64 k) ∧ w2.cell? ⟨w.heap.size, 2, none⟩ = some (.int .i32 n) ∧ w2.cell? ⟨g, 0, none⟩ = some (.int .u32 z) := by
  obtain ⟨c0, _, c2, _⟩ := var_box (h1.drew.trans (h2.mono hs))
  exact ⟨c0, c2, (h2.cell (p := ⟨g, 0, none⟩) hg).trans hc⟩

set_option maxHeartbeats 2000000 in
theorem variable_cells (k n : Int) (nm : ByteArray) (h0 : 0 ≤ k) (h1 : k ≤ 9) (hs : nm.size ≤ 4611686018427387904) (w : World) (hcs : TabsAny w) :
    Calls Try.prog 78 #[.agg #[.int .i64 k, .string nm, .int .i32 n]] w (NewLen w (if (packs nm.data.toList).length = 1 then 2 else 0)) := by
  have HT : Hid (∀ W, Below w.heap.size w W → Calls Try.prog 61 #[.agg #[.int .i64 k]] W fun e w' => (∃ x : Nat, e = .returned (.int .u32 x) ∧ x < 4294967296) ∧ Below W.heap.size W w') := Lib.hid fun W hb => tag_any k h0 h1 W (hcs.below hb)
  have HP : Hid (∀ W, Below w.heap.size w W → Calls Try.prog 64 #[.string nm] W (NewLen W (packs nm.data.toList).length)) := Lib.hid fun W hb => impl_packany nm hs W (hcs.below hb)
  obtain ⟨m, hm⟩ : ∃ m, (packs nm.data.toList).length = m := ⟨_, rfl⟩
  rw [hm] at HP ⊢
  clear hcs h0 h1 hm hs
  by_cases h1 : m = 1
  · rw [if_pos h1]
    have H1 := Lib.hid h1
    clear h1
    go_enter Try.func78, Try.ntmps78
    go_wp2_with fail
    refine (HP.out _ ((Below.refl _ _).alloc (Nat.le_refl _) _)).mono ?_
    rintro e w1 ⟨v, zs, rfl, hl, -, hown, hb1⟩
    have hb1' : Below (w.heap.size + 1) (w.alloc (.cells #[.int .i64 k, .string nm, .int .i32 n] 66)) w1 := hb1.mono (by simp)
    have hs1 := hb1.size
    obtain ⟨g, cap, z, rfl, hcell, hg⟩ := own_one hown (hl.trans H1.out)
    have HBX := Lib.hid hb1'
    have hz1 : w.heap.size + 1 ≤ w1.heap.size := by simp at hs1; omega
    obtain ⟨c0, c1, c2, hB⟩ := var_box hb1'
    have HB := Lib.hid hB
    have HG := Lib.hid hg
    have HCG := Lib.hid hcell
    have HZ := Lib.hid hz1
    clear hown hb1 hb1' hl hB hs1 hg HP hz1
    go_wp2_with fail
    go_region_held3 (fun w' => w'.cell? ⟨w.heap.size, 0, none⟩ = some (.int .i64 k) ∧ w'.cell? ⟨w.heap.size, 2, none⟩ = some (.int .i32 n) ∧ w'.cell? ⟨g, 0, none⟩ = some (.int .u32 (z : Int))) (first | exact ⟨c0, c2, hcell⟩ | go_keep | exact var_keep HBX.out HZ.out HG.out HCG.out hb2) (first | (go_at_call 61; refine (HT.out _ HB.out.drew).mono ?_; rintro e w2 ⟨⟨x, rfl, hx⟩, hb2⟩))
    go_wp2
    go_ret
    exact new_two rfl (or_nat _ _) (u32_some _) (HB.out.drew.trans (hb2.mono HB.out.size))
  · rw [if_neg h1]
    go_enter Try.func78, Try.ntmps78
    go_wp2_with fail
    refine (HP.out _ ((Below.refl _ _).alloc (Nat.le_refl _) _)).mono ?_
    rintro e w1 ⟨v, zs, rfl, hl, -, hown, hb1⟩
    obtain ⟨A, cap, rfl⟩ := own_slice hown
    have hne : ((zs.length : Int) != 1) = true := by simp; omega
    have HB := Lib.hid ((((Below.refl w.heap.size w).alloc (Nat.le_refl _) _)).trans (hb1.mono (by simp)))
    clear hown hb1 hl h1 HP
    go_wp2_with fail
    go_ret
    exact ⟨_, [], rfl, rfl, fun z hz => absurd hz List.not_mem_nil, World.ownsRow_nil _ _ _ _, HB.out⟩
end Go.Proofs.Ytllhcdkbgknjdaa
