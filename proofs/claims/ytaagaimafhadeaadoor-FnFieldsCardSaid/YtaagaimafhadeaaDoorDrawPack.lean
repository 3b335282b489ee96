/-
  What laws.FnPack and laws.FnFields draw: a text that is a name mostly, a field, a list of fields.
-/
import Derived.Test.YtaagaimafhadeaaDoorDrawField
namespace Go.Proofs.YtaagaimafhadeaaDoor
open Go.RowKit Go

set_option maxRecDepth 100000 in
set_option maxHeartbeats 2000000 in
theorem drawpack_any (A : Option Addr) (len cap : Nat) (w : World) (hcode : CodeOk w w.heap.size A len) : Calls Tryd.prog 11 #[.slice A len cap] w fun e w' => ∃ s : ByteArray, e = .returned (.string s) ∧ s.size ≤ 100 ∧ Below w.heap.size w w' := by
  have HC := Lib.hid (new_any A len cap w hcode)
  clear hcode
  go_enter Tryd.func11, Tryd.ntmps11
  go_wp2_with fail
  refine HC.out.mono ?_
  rintro e w1 ⟨g, rfl, hg, hc1, hb1⟩
  have HB1 := Lib.hid hb1
  clear hb1
  go_wp2_with fail
  refine (name_any g _ hc1).mono ?_
  rintro e w2 ⟨s, rfl, hs, hc2, hg2⟩
  have HB2 := Lib.hid (HB1.out.trans (below_of_only hg2 HB1.out.size hg))
  clear hg2 hc1
  go_wp2_with fail
  refine (once_any g 3 (by omega) _ hc2).mono ?_
  rintro e w3 ⟨b, rfl, hc3, hg3⟩
  have HB3 := Lib.hid (HB2.out.trans (below_of_only hg3 HB2.out.size hg))
  clear hg3 hc2
  cases b with
  | false =>
    go_wp2_with fail
    go_ret
    exact ⟨s, rfl, by omega, HB3.out⟩
  | true =>
    go_wp2_with fail
    refine (name_any g _ hc3).mono ?_
    rintro e w4 ⟨s4, rfl, hs4, hc4, hg4⟩
    have HB4 := Lib.hid (HB3.out.trans (below_of_only hg4 HB3.out.size hg))
    clear hg4 hc3
    go_wp2_with fail
    refine (name_any g _ hc4).mono ?_
    rintro e w5 ⟨s5, rfl, hs5, hc5, hg5⟩
    have HB5 := Lib.hid (HB4.out.trans (below_of_only hg5 HB4.out.size hg))
    clear hg5 hc4
    have hsz : (s ++ s4).size = s.size + s4.size := ByteArray.size_append
    obtain ⟨s6, hs6⟩ : ∃ s6, s ++ s4 = s6 := ⟨_, rfl⟩
    rw [hs6] at hsz ⊢
    go_wp2_with fail
    go_ret
    exact ⟨_, rfl, by rw [ByteArray.size_append]; omega, HB5.out⟩

set_option maxHeartbeats 2000000 in
theorem drawfieldok_any (A : Option Addr) (len cap : Nat) (w : World) (hcode : CodeOk w w.heap.size A len) : Calls Tryd.prog 18 #[.slice A len cap] w fun e w' => ∃ f : Nat, e = .returned (.int .u32 f) ∧ f < 4294967296 ∧ Below w.heap.size w w' := by
  have HC := Lib.hid (new_any A len cap w hcode)
  clear hcode
  go_enter Tryd.func18, Tryd.ntmps18
  go_wp2_with fail
  refine HC.out.mono ?_
  rintro e w1 ⟨g, rfl, hg, hc1, hb1⟩
  have HB1 := Lib.hid hb1
  clear hb1
  go_wp2_with fail
  refine (field_any g _ hc1).mono ?_
  rintro e w2 ⟨f, rfl, hf, hc2, hg2⟩
  have HB2 := Lib.hid (HB1.out.trans (below_of_only hg2 HB1.out.size hg))
  clear hg2 hc1 hc2
  go_wp2_with fail
  go_ret
  exact ⟨f, rfl, hf, HB2.out⟩

/-- A list of numbers is drawn. -/
def DrewL (w : World) (e : Ending) (w' : World) : Prop := ∃ v ls, e = .returned v ∧ RdN w' v ls ∧ (∀ x ∈ ls, x < 4294967296) ∧ ls.length ≤ 100 ∧ Below w.heap.size w w'
def drawnEnds : List ByteArray := [⟨#[]⟩, ⟨#[115, 113, 117, 97, 114, 101]⟩, ⟨#[113, 113, 113]⟩]
theorem drawnEnds_size : ∀ x ∈ drawnEnds, x.size ≤ 9 := by decide
theorem own_cur {w w' : World} {g : Nat} {v : Value} {n : Nat} {xs : List Value} {base : Nat} {e : TypeId} (h : w.ownsRow base e 1 v n xs) (hg : g < base) (hk : w.grownBy w' (some g)) : w'.ownsRow base e 1 v n xs := h.kept hk (own_ne h hg)

set_option maxRecDepth 100000 in
set_option maxHeartbeats 4000000 in
theorem drawunpack_any (A : Option Addr) (len cap : Nat) (w : World) (hcode : CodeOk w w.heap.size A len) : Calls Tryd.prog 16 #[.slice A len cap] w (DrewL w) := by
  obtain ⟨i0, hinf, hz0, hz1, hz2⟩ := info_parts infoU32
  have HC := Lib.hid (new_any A len cap w hcode)
  clear hcode
  go_enter Tryd.func16, Tryd.ntmps16
  go_wp2_with fail
  refine HC.out.mono ?_
  rintro e w1 ⟨g, rfl, hg, hc1, hb1⟩
  have HB1 := Lib.hid hb1
  clear hb1 HC
  go_wp2_with fail
  refine (name_any g _ hc1).mono ?_
  rintro e w2 ⟨s, rfl, hs, hc2, hg2⟩
  have HB2 := Lib.hid (HB1.out.trans (below_of_only hg2 HB1.out.size hg))
  have hgl := cur_lt hc2
  have PK := pick_any g w2.heap.size drawnEnds _ (hc2.grown (World.grownBy_alloc w2 _ none) (fun _ h => by cases h)) (strs_new w2 9 drawnEnds) (by omega) (by simp) (by decide) (by decide)
  have HPK := Lib.hid PK
  clear hg2 hc1 hc2 PK
  go_wp2_with fail
  refine HPK.out.mono ?_
  rintro e w3 ⟨x, rfl, hx, hc3, hg3⟩
  have hx9 := drawnEnds_size x hx
  have HB3 := Lib.hid (HB2.out.trans (below_of_only (only_trans (only_alloc (World.grownBy.refl w2 _) _) hg3) HB2.out.size hg))
  have hgl3 := cur_lt hc3
  have hsz : (s ++ x).size = s.size + x.size := ByteArray.size_append
  obtain ⟨s4, hs4⟩ : ∃ s4, s ++ x = s4 := ⟨_, rfl⟩
  rw [hs4] at hsz
  have HSX := Lib.hid hs4
  have HP := Lib.hid (spec_pack s4 (by omega) w3)
  have hpl := (packs_len s4.data.toList).2
  have hps := packs_small s4.data.toList
  obtain ⟨ls, hls⟩ : ∃ ls, packs s4.data.toList = ls := ⟨_, rfl⟩
  rw [hls] at HP hpl hps
  have HPS : Hid (∀ f ∈ ls, f < 4294967296) := Lib.hid fun f h => by have := hps f h; omega
  clear hls hx hg3 hs4 HPK hps
  go_wp2_with fail
  rw [HSX.out]
  refine HP.out.mono ?_
  rintro e w4 ⟨v, rfl, ho4, hb4⟩
  have hc4 : CurAt w4 g := hc3.below hb4
  have HB4 := Lib.hid (HB3.out.trans (hb4.mono HB3.out.size))
  have HO4 := Lib.hid ho4
  have hs34 := hb4.size
  clear ho4 hb4 hc3 HP
  go_wp2_with fail
  refine (below_any g 6 (by omega) (by omega) _ hc4).mono ?_
  rintro e w5 ⟨y, rfl, ⟨hy0, hy1⟩, hc5, hg5⟩
  have HB5 := Lib.hid (HB4.out.trans (below_of_only hg5 HB4.out.size hg))
  have HO5 := Lib.hid (own_cur HO4.out hgl3 hg5)
  have hs45 := hg5.size
  clear hg5 hc4 HO4 hy1
  by_cases h0 : y = 0
  · have h0' : (y == 0) = true := by simpa using h0
    clear h0
    go_wp2_with fail
    refine (field_any g _ hc5).mono ?_
    rintro e w6 ⟨f, rfl, hf, hc6, hg6⟩
    have HB6 := Lib.hid (HB5.out.trans (below_of_only hg6 HB5.out.size hg))
    have hO6 := own_cur HO5.out hgl3 hg6
    have hw6 := HB6.out.size
    have h36 : w3.heap.size ≤ w6.heap.size := by
      have h2 := hg6.size
      omega
    clear hc6 hg6 HO5
    go_wp2_with (at_builtin; refine wpList_append_own _ rfl _ _ 25 rfl w3.heap.size 31 i0 (.int .u32 0) 1 4 Tryd.underlying25 hinf hz0 hz1 hz2 rfl (by decide) _ _ _ rfl (hO6.alloc _) ⟨w6.heap.size, 0, none⟩ 1 1 [.int .u32 (f : Int)] rfl rfl (cell_one_new _ _ _) (by simp [Value.oneCell']) (by unfold maxLen; omega) (by omega) (by simp; omega) ?_; intro v' w7 hown' hgrow _)
    go_ret
    refine ⟨v', ls ++ [f], rfl, RdN.of_own (base := w3.heap.size) (e := 31) (by simpa [u32v] using hown') (by simp; omega), fun x hx => ?_, by simp; omega, (HB6.out.alloc hw6 _).grown hgrow (by simp; omega) (fun k hk => by have := own_lt hO6 k hk; have := HB3.out.size; omega)⟩
    rcases List.mem_append.1 hx with hx | hx
    · exact HPS.out x hx
    · obtain rfl : x = f := by simpa using hx
      exact hf
  · have h0' : (y == 0) = false := by simpa using h0
    by_cases h1 : y = 1
    · have h1' : (y == 1) = true := by simpa using h1
      clear h0 h1
      by_cases hl : ls = []
      · subst hl
        obtain ⟨A0, c0, rfl, -, -⟩ := RdN.of_own HO5.out (by decide)
        have HR := Lib.hid (RdN.of_own HO5.out (by decide))
        clear HO5 hc5
        go_wp2_with fail
        go_ret
        exact ⟨_, [], rfl, HR.out, fun x hx => by simp at hx, by decide, HB5.out⟩
      · have hpos : 0 < ls.length := List.length_pos_iff.2 hl
        rcases HO5.out.2 with ⟨-, hn0⟩ | ⟨k, cp, cur, rfl, -⟩
        · omega
        · have HO5' := Lib.hid HO5.out
          clear HO5
          go_wp2_with fail
          refine (field_any g _ hc5).mono ?_
          rintro e w6 ⟨f, rfl, hf, hc6, hg6⟩
          have HB6 := Lib.hid (HB5.out.trans (below_of_only hg6 HB5.out.size hg))
          have hO6 := own_cur HO5'.out hgl3 hg6
          have hd : w6.cell? ⟨k, 0, none⟩ = some (u32v ls[0]) := by
            rw [hO6.cellAt 0 (by omega)]
            simp [hpos]
          have hfz := hO6.frozenAt 0
          have hst := hO6.stored 0 (.int .u32 (f : Int))
          have hset : ((ls.map u32v).set 0 (.int .u32 (f : Int))) = (ls.set 0 f).map u32v := by
            rw [show Value.int .u32 (f : Int) = u32v f from rfl, List.map_set]
          rw [hset] at hst
          have HST := Lib.hid hst
          have hbk := own_lt hO6 k rfl
          have h3 := HB3.out.size
          clear hc6 hg6 HO5' hst hset hO6 hl
          go_wp2_with fail
          go_ret
          refine ⟨_, ls.set 0 f, rfl, RdN.of_own (base := w3.heap.size) (e := 31) (by rw [List.length_set]; exact HST.out.1) (by rw [List.length_set]; omega), fun x hx => ?_, by rw [List.length_set]; omega, HB6.out.grown HST.out.2 HB6.out.size (fun j hj => by injection hj with hj; omega)⟩
          rcases List.mem_or_eq_of_mem_set hx with hx | hx
          · exact HPS.out x hx
          · rw [hx]; exact hf
    · have h1' : (y == 1) = false := by simpa using h1
      by_cases h2 : y = 2
      · have h2' : (y == 2) = true := by simpa using h2
        clear h0 h1 h2
        go_wp2_with fail
        refine (field_any g _ hc5).mono ?_
        rintro e w6 ⟨f, rfl, hf, hc6, hg6⟩
        have HB6 := Lib.hid (HB5.out.trans (below_of_only hg6 HB5.out.size hg))
        clear hc6 hg6 HO5
        go_wp2_with fail
        go_ret
        have hx1 : ∀ x ∈ [f], x < 4294967296 := fun x hx => by
          rw [show x = f by simpa using hx]
          exact hf
        exact ⟨_, [f], rfl, rdn_one _ _ _, hx1, by simp, HB6.out.alloc HB6.out.size _⟩
      · have h2' : (y == 2) = false := by simpa using h2
        clear h0 h1 h2
        have HR := Lib.hid (RdN.of_own HO5.out (by omega))
        clear HO5 hc5
        go_wp2_with fail
        go_ret
        exact ⟨v, ls, rfl, HR.out, HPS.out, by omega, HB5.out⟩
end Go.Proofs.YtaagaimafhadeaaDoor
