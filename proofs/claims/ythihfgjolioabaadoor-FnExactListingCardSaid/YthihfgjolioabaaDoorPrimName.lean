/-
  PrimName of both sides.
-/
import Derived.Test.YthihfgjolioabaaDoorPrims
import Derived.Test.YthihfgjolioabaaDoorBlk
import Derived.Test.YthihfgjolioabaaDoorIn
namespace Go.Proofs.YthihfgjolioabaaDoor
open Go.RowKit Go

theorem below_alloc1 (w : World) (o : Obj) : Below w.heap.size w (w.alloc o) := (Below.refl _ _).alloc (Nat.le_refl _) _
/-- The name of a word; the empty text where there is none. -/
def primN (k : Int) : ByteArray := if 0 ≤ k ∧ k ≤ 23 then primNames.getD k.toNat ⟨#[]⟩ else ⟨#[]⟩
def primStrs : Array Value := (primNames.map Value.string).toArray
theorem names_any (w : World) : Calls Tryd.prog 24 #[] w fun e w' => e = .returned (.slice (some ⟨w.heap.size, 0, none⟩) 24 24) ∧ Blk w' w.heap.size 9 primStrs ∧ Below w.heap.size w w' := by
  go_enter Tryd.func24, Tryd.ntmps24
  go_wp2
  go_ret
  exact ⟨rfl, Blk.new w 9 _, below_alloc1 w _⟩
theorem strs_cell {w : World} {g k : Nat} (h : Blk w g 9 primStrs) (hk : k < 24) : w.cell? ⟨g, k, none⟩ = some (.string (primNames.getD k ⟨#[]⟩)) := by
  rw [h.cell]
  match k, hk with
  | 0, _ => rfl
  | 1, _ => rfl
  | 2, _ => rfl
  | 3, _ => rfl
  | 4, _ => rfl
  | 5, _ => rfl
  | 6, _ => rfl
  | 7, _ => rfl
  | 8, _ => rfl
  | 9, _ => rfl
  | 10, _ => rfl
  | 11, _ => rfl
  | 12, _ => rfl
  | 13, _ => rfl
  | 14, _ => rfl
  | 15, _ => rfl
  | 16, _ => rfl
  | 17, _ => rfl
  | 18, _ => rfl
  | 19, _ => rfl
  | 20, _ => rfl
  | 21, _ => rfl
  | 22, _ => rfl
  | 23, _ => rfl
  | k + 24, h => omega
theorem spec_primname (k : Int) (h0 : -9223372036854775808 ≤ k) (h1 : k ≤ 9223372036854775807) (w : World) : Calls Tryd.prog 13 #[.int .i64 k] w fun e w' => e = .returned (.string (primN k)) ∧ Below w.heap.size w w' := by
  by_cases h : 0 ≤ k ∧ k ≤ 23
  · have HIN := Lib.hid (fun W => in_any k 0 23 W)
    rw [inB_true h.1 h.2] at HIN
    obtain ⟨n, rfl⟩ : ∃ n : Nat, k = n := ⟨k.toNat, by omega⟩
    have hn : n < 24 := by omega
    obtain ⟨nm, hnm⟩ : ∃ nm, primNames.getD n ⟨#[]⟩ = nm := ⟨_, rfl⟩
    have HE : Hid (primN (n : Int) = nm) := Lib.hid (by unfold primN; rw [if_pos h]; exact hnm)
    have HNM := Lib.hid hnm
    have g1 : (0 : Int) ≤ (n : Int) := by omega
    have g2 : (n : Int) < 24 := by omega
    clear h h0 h1 hnm
    rw [HE.out]
    go_enter Tryd.func13, Tryd.ntmps13
    go_wp2_with fail
    refine (names_any _).mono ?_
    rintro e w1 ⟨rfl, hb, hbl⟩
    have c0 := strs_cell hb hn
    rw [HNM.out] at c0
    have HB := Lib.hid hbl
    clear hb hbl
    go_wp2_with fail
    refine (HIN.out _).mono ?_
    rintro e w' ⟨rfl, rfl⟩
    go_wp2_with fail
    go_ret
    exact ⟨rfl, HB.out⟩
  · have HIN := Lib.hid (fun W => in_any k 0 23 W)
    rw [inB_false h] at HIN
    have HE : Hid (primN k = ⟨#[]⟩) := Lib.hid (by unfold primN; rw [if_neg h])
    clear h
    rw [HE.out]
    go_enter Tryd.func13, Tryd.ntmps13
    go_wp2_with fail
    refine (names_any _).mono ?_
    rintro e w1 ⟨rfl, hb, hbl⟩
    have HB := Lib.hid hbl
    clear hb hbl
    go_wp2_with fail
    refine (HIN.out _).mono ?_
    rintro e w' ⟨rfl, rfl⟩
    go_wp2_with fail
    go_ret
    exact ⟨rfl, HB.out⟩
theorem isbuiltin_any (k : Int) (w : World) : Calls Tryd.prog 18 #[.int .i64 k] w fun e w' => e = .returned (.bool (inB k 0 23)) ∧ w = w' := by
  by_cases h0 : 0 ≤ k
  · have h0' : decide (0 ≤ k) = true := by simpa using h0
    by_cases h1 : k ≤ 23
    · rw [inB_true h0 h1]
      have h2 : k < 24 := by omega
      go_enter Tryd.func18, Tryd.ntmps18
      go_wp2
      go_ret
      exact ⟨rfl, rfl⟩
    · rw [inB_false (by omega)]
      have h2 : ¬ k < 24 := by omega
      have h2' : decide (k < 24) = false := by simp; omega
      go_enter Tryd.func18, Tryd.ntmps18
      go_wp2
      go_ret
      exact ⟨rfl, rfl⟩
  · rw [inB_false (by omega)]
    have h0' : decide (0 ≤ k) = false := by simpa using h0
    go_enter Tryd.func18, Tryd.ntmps18
    go_wp2
    go_ret
    exact ⟨rfl, rfl⟩
theorem impl_primname (k : Int) (w : World) : Calls Tryd.prog 19 #[.int .i64 k] w fun e w' => e = .returned (.string (primN k)) ∧ Below w.heap.size w w' := by
  have HB := Lib.hid (fun W => isbuiltin_any k W)
  by_cases h : 0 ≤ k ∧ k ≤ 23
  · rw [inB_true h.1 h.2] at HB
    obtain ⟨n, rfl⟩ : ∃ n : Nat, k = n := ⟨k.toNat, by omega⟩
    have hn : n < 24 := by omega
    obtain ⟨t, f, hc⟩ := prim_name n hn
    have hix := prim_index n hn
    rw [hc] at hix
    obtain ⟨nm, hnm⟩ : ∃ nm, primNames.getD n ⟨#[]⟩ = nm := ⟨_, rfl⟩
    rw [hnm] at hix
    have hfl : ∀ W, (Instr.field 48 (.agg #[.string nm, .int .i64 t, f]) 0).run Tryd.prog W = .ok (.string nm) W := fun _ => by kernel_rfl
    have HE : Hid (primN (n : Int) = nm) := Lib.hid (by unfold primN; rw [if_pos h]; exact hnm)
    clear h hc hnm
    rw [HE.out]
    go_enter Tryd.func19, Tryd.ntmps19
    go_wp2_with fail
    refine (HB.out _).mono ?_
    rintro e w' ⟨rfl, rfl⟩
    go_wp2_with fail
    refine (builtins_any _).mono ?_
    rintro e w1 ⟨rfl, hb⟩
    have HBB := Lib.hid hb
    clear hb
    go_wp2_with fail
    go_ret
    exact ⟨rfl, HBB.out⟩
  · rw [inB_false h] at HB
    have HE : Hid (primN k = ⟨#[]⟩) := Lib.hid (by unfold primN; rw [if_neg h])
    clear h
    rw [HE.out]
    go_enter Tryd.func19, Tryd.ntmps19
    go_wp2_with fail
    refine (HB.out _).mono ?_
    rintro e w' ⟨rfl, rfl⟩
    go_wp2_with fail
    go_ret
    exact ⟨rfl, Below.refl _ _⟩
end Go.Proofs.YthihfgjolioabaaDoor
