/-
  laws.FnExactPrimOf answers true at every text.
-/
import Derived.Test.YthelbjlckndklaaDoorPrimOfS
import Derived.Laws.EntriesVeiled
namespace Go.Proofs.YthelbjlckndklaaDoor
open Go.RowKit Go

set_option maxHeartbeats 2000000 in
theorem indexfunc_any (nm : ByteArray) (g b : Nat) (w : World) (hB : Blk w g 32 primCells) (hc : w.cell? ⟨b, 0, none⟩ = some (.string nm)) (hb : b < w.heap.size) :
    Calls Tryd.prog 13 #[.slice (some ⟨g, 0, none⟩) 24 24, .func (.func 14) #[] #[.pointer (some ⟨b, 0, none⟩)]] w fun e w' => e = .returned (.int .i64 (primIdx nm)) ∧ Below w.heap.size w w' := by
  obtain ⟨r, hr⟩ : ∃ r, primIdx nm = r := ⟨_, rfl⟩
  have HR := Lib.hid hr
  rw [hr]
  have HB := Lib.hid hB
  have HC := Lib.hid hc
  have HL := Lib.hid hb
  clear hr hB hc hb
  go_enter Tryd.func13, Tryd.ntmps13
  go_wp2_with fail
  go_loopw [8] (fun vi wr => ∃ i : Nat, vi = .int .i64 i ∧ i ≤ 24 ∧ Hid (∀ j, j < i → ((primNames.getD j ⟨#[]⟩).toList == nm.toList) = false) ∧ Hid (Below w.heap.size w wr)) (fun vi _ => 24 - (intOf vi).toNat)
  case atStart => exact ⟨0, rfl, by omega, Lib.hid (fun j h => by omega), Lib.hid (Below.refl _ _)⟩
  case round =>
    obtain ⟨i, rfl, hi, HN, HW⟩ := hrel
    by_cases hp : i < 24
    · obtain ⟨t, q, e0, e1, e2⟩ := prim_cells i hp
      have kb := HB.out.below HW.out HB.out.lt
      have c0 : wr.cell? ⟨g, i * 3, none⟩ = some (.string (primNames.getD i ⟨#[]⟩)) := (kb.cell _).trans e0
      have c1 : wr.cell? ⟨g, i * 3 + 1, none⟩ = some (.int .i64 t) := (kb.cell _).trans e1
      have c2 : wr.cell? ⟨g, i * 3 + 2, none⟩ = some (.func (.func q) #[] #[]) := (kb.cell _).trans e2
      obtain ⟨s, hs⟩ : ∃ s, primNames.getD i ⟨#[]⟩ = s := ⟨_, rfl⟩
      have HS := Lib.hid hs
      have i1 : (0 : Int) ≤ (i : Int) := by omega
      have i2 : (i : Int) < 24 := by omega
      rw [hs] at c0
      have HCL := Lib.hid (primof_one s nm t q b wr ((HW.out.cell (p := ⟨b, 0, none⟩) HL.out).trans HC.out) (Nat.lt_of_lt_of_le HL.out HW.out.size))
      clear hs kb e0 e1 e2
      obtain ⟨z, hz⟩ : ∃ z, (s.toList == nm.toList) = z := ⟨_, rfl⟩
      rw [hz] at HCL
      have HZ := Lib.hid hz
      clear hz
      cases z with
      | true =>
        have HX : Hid (r = (i : Int)) := Lib.hid (by rw [← HR.out]; exact primIdx_yes hp (by rw [HS.out]; exact HZ.out) HN.out)
        go_wp2_with fail
        refine HCL.out.mono ?_
        rintro e w1 ⟨rfl, hb1⟩
        have HW2 := Lib.hid (HW.out.trans (hb1.mono HW.out.size))
        clear hb1 HCL c0 c1 c2
        go_wp2_with fail
        go_ret
        exact ⟨by rw [HX.out]; rfl, HW2.out⟩
      | false =>
        have HN2 : Hid (∀ j, j < i + 1 → ((primNames.getD j ⟨#[]⟩).toList == nm.toList) = false) := Lib.hid fun j hj => by
          rcases Nat.lt_or_ge j i with h3 | h3
          · exact HN.out j h3
          · obtain rfl : j = i := by omega
            rw [HS.out]
            exact HZ.out
        go_wp2_with fail
        refine HCL.out.mono ?_
        rintro e w1 ⟨rfl, hb1⟩
        have HW2 := Lib.hid (HW.out.trans (hb1.mono HW.out.size))
        clear hb1 HCL c0 c1 c2
        go_wp2_with fail
        go_roundw
        case rel => exact ⟨i + 1, by go_num, by omega, HN2, HW2⟩
        case measure => simp [intOf]; omega
    · have HX : Hid (r = -1) := Lib.hid (by rw [← HR.out]; exact primIdx_no (fun j hj => HN.out j (by omega)))
      have i2 : ¬ (i : Int) < 24 := by omega
      go_wp2
      go_ret
      exact ⟨by rw [HX.out]; rfl, HW.out⟩
set_option maxRecDepth 100000 in
set_option maxHeartbeats 2000000 in
theorem impl_primof (nm : ByteArray) (w : World) : Calls Tryd.prog 8 #[.string nm] w fun e w' => e = .returned (.int .i64 (primIdx nm)) ∧ Below w.heap.size w w' := by
  obtain ⟨r, hr⟩ : ∃ r, primIdx nm = r := ⟨_, rfl⟩
  have hif := fun g b W h1 h2 h3 => indexfunc_any nm g b W h1 h2 h3
  rw [hr] at hif ⊢
  have HIF := Lib.hid hif
  clear hr hif
  go_enter Tryd.func8, Tryd.ntmps8
  go_wp2_with fail
  refine (builtins_any _).mono ?_
  rintro e w1 ⟨rfl, hb⟩
  have kb := (Blk.new w 9 #[.string nm]).below hb (by simp)
  have c0 : w1.cell? ⟨w.heap.size, 0, none⟩ = some (.string nm) := kb.cell 0
  have lb : w.heap.size < w1.heap.size := kb.lt
  have HBB := Lib.hid ((below_alloc1 w (.cells #[.string nm] 9)).trans (hb.mono (by simp)))
  have HC0 := Lib.hid c0
  clear hb kb
  go_wp2_with (with_reducible refine wpList_store_row rfl 32 _ _ rfl w1.heap.size primCells rfl rfl 32 _ (heap_alloc_last w1 _) primCells_info (by kernel_rfl) primCells_one ?_; refine unstop ?_)
  refine Stop.go ?_
  rw [World.setRow_alloc_new]
  have KT := Blk.new w1 32 primCells
  have HB2 : Hid (Below w.heap.size w (w1.alloc (.cells primCells 32))) := Lib.hid (HBB.out.alloc HBB.out.size _)
  have hc2 : (w1.alloc (.cells primCells 32)).cell? ⟨w.heap.size, 0, none⟩ = some (.string nm) := ((below_alloc1 w1 _).cell (p := ⟨w.heap.size, 0, none⟩) lb).trans c0
  have hl2 : w.heap.size < (w1.alloc (.cells primCells 32)).heap.size := by simp; omega
  have HIX := Lib.hid (HIF.out w1.heap.size w.heap.size _ KT hc2 hl2)
  clear KT hc2 hl2 HIF HC0 HBB c0
  go_wp2_with fail
  refine HIX.out.mono ?_
  rintro e w3 ⟨rfl, hb3⟩
  have HB3 := Lib.hid (HB2.out.trans (hb3.mono HB2.out.size))
  clear hb3 HB2 HIX
  go_wp2_with fail
  go_ret
  exact ⟨rfl, HB3.out⟩
theorem law_FnExactPrimOf (nm : ByteArray) (hs : nm.size ≤ 9223372036854775807) (w : World) : Calls Tryd.prog 4 #[.string nm] w fun e w' => e = .returned (.bool true) ∧ Below w.heap.size w w' := by
  have HS := Lib.hid (fun W => spec_primof nm W)
  have HI := Lib.hid (fun W => impl_primof nm W)
  obtain ⟨r, hr⟩ : ∃ r, primIdx nm = r := ⟨_, rfl⟩
  rw [hr] at HS HI
  have b2 : (r != r) = false := by simp
  clear hr
  by_cases hl : nm.size ≤ 1048576
  · have g1 : ¬ (1048576 : Int) < (nm.size : Int) := by omega
    go_enter Tryd.func4, Tryd.ntmps4
    go_wp2_with fail
    refine (HS.out _).mono ?_
    rintro e w1 ⟨rfl, hb1⟩
    have HB1 := Lib.hid hb1
    clear hb1
    go_wp2_with fail
    refine (HI.out _).mono ?_
    rintro e w2 ⟨rfl, hb2⟩
    have HB2 := Lib.hid (HB1.out.trans (hb2.mono HB1.out.size))
    clear hb2 HB1
    go_wp2_with fail
    go_ret
    exact ⟨rfl, HB2.out⟩
  · have g1 : (1048576 : Int) < (nm.size : Int) := by omega
    go_enter Tryd.func4, Tryd.ntmps4
    go_wp2_with fail
    go_ret
    exact ⟨rfl, Below.refl _ _⟩
end Go.Proofs.YthelbjlckndklaaDoor
