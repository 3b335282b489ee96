/-
  Stores are drawn, not right sometimes; the draws of the laws on stores.
-/
import Derived.Test.YtcddkcejjajlhaaDrawStore
import Derived.Test.YtcddkcejjajlhaaExKit
namespace Go.Proofs.Ytcddkcejjajlhaa
open Go.RowKit Go

attribute [local go_sem ↓] Go.wp_at_zero Go.wp_at_succ
theorem small_seven {ls : List Nat} (h : ∀ x ∈ ls, x < 4294967296) : ∀ x ∈ ls ++ [7], x < 4294967296 := small_app h (small_one (by omega))
set_option maxHeartbeats 8000000 in
theorem drawstore_any (g : Nat) (w : World) (hc : CurAt w g) : Calls Try.prog 58 #[.pointer (some ⟨g, 0, none⟩)] w (DrewStore 1000 g w) := by
  obtain ⟨i0, hinf, hz0, hz1, hz2⟩ := info_parts infoU32
  have hgl := cur_lt hc
  have HB0 := Lib.hid (drawmake_any g _ (hc.grown (World.grownBy_alloc w (.cells #[.slice none 0 0] 26) none) (fun _ h => by cases h)))
  have HGL := Lib.hid hgl
  clear hc
  go_enter Try.func58, Try.ntmps58
  go_wp2_with fail
  refine HB0.out.mono ?_
  rintro e w1 ⟨v, ls, rfl, hl, hsm, hown, hc1, hg1⟩
  have k1 := (Blk.new w 26 #[.slice none 0 0]).grown hg1 (fun e => by injection e with e; omega)
  have ho := hown.mono (show w.heap.size + 1 ≤ _ by simp)
  obtain ⟨A, cp, rfl⟩ := own_form ho
  have HO := Lib.hid ho
  have HS := Lib.hid hsm
  have HB := Lib.hid (below_any g 12 (by omega) (by omega) _ (hc1.grown (World.grownBy_alloc w1 (.cells #[.slice A ls.length cp] 26) none) (fun _ h => by cases h)))
  have HG1 := Lib.hid (only_trans (World.grownBy_alloc w _ _) hg1)
  have K1 := Lib.hid k1
  have hlt1 : w.heap.size < w1.heap.size := k1.lt
  clear hc1 hg1 k1 HB0 hown ho hsm
  go_wp2_with fail
  refine HB.out.mono ?_
  rintro e w2 ⟨y, rfl, ⟨hy0, hy1⟩, hc2, hg2⟩
  have hy2 : y ≤ 11 := by simpa using hy1
  have HK2 := Lib.hid ((K1.out.alloc (.cells #[.slice A ls.length cp] 26)).grown hg2 (fun e => by injection e with e; omega))
  have HX2 : Hid (Blk w2 w1.heap.size 26 #[.slice A ls.length cp]) := Lib.hid ((Blk.new w1 _ _).grown hg2 (fun e => by injection e with e; omega))
  have HO2 := Lib.hid (own_cur (HO.out.alloc (.cells #[.slice A ls.length cp] 26)) (by omega) hg2)
  have HG2 := Lib.hid (only_trans (only_alloc HG1.out _) hg2)
  have HC2 := Lib.hid hc2
  have c2 : w2.cell? ⟨w.heap.size, 0, none⟩ = some (.slice none 0 0) := HK2.out.cell 0
  have f2 := HK2.out.frozen 0
  have x2 : w2.cell? ⟨w1.heap.size, 0, none⟩ = some (.slice A ls.length cp) := HX2.out.cell 0
  have xf2 := HX2.out.frozen 0
  have HLO := Lib.hid (own_lt HO2.out)
  have HHI := Lib.hid (fun k hk => (World.ownsRow.lt HO.out k hk).2)
  clear hc2 hg2 HB hy1 HG1 K1 HO
  by_cases h0 : y = 0
  · have b0 : (y == 0) = true := by simpa using h0
    clear h0 hy0 hy2 c2 f2
    go_wp2_with (at_builtin; refine wpList_append_own _ rfl _ _ 24 rfl (w.heap.size + 1) 43 i0 (.int .u32 0) 1 4 Try.underlying24 hinf hz0 hz1 hz2 rfl (by decide) _ _ _ rfl (HO2.out.alloc _) ⟨w2.heap.size, 0, none⟩ 1 1 [.int .u32 7] rfl rfl (cell_one_new _ _ _) (by simp [Value.oneCell']) (by unfold maxLen; omega) (by omega) (by have := HK2.out.lt; simp; omega) ?_; intro v3 w3 hown3 hgr3 hif; clear hif; obtain ⟨A3, c3, rfl⟩ := own_form hown3; have k3 := (HK2.out.alloc (.cells #[.int .u32 7] 43)).grown hgr3 (fun e => by have := HLO.out _ e.symm; omega); have x3 := (HX2.out.alloc (.cells #[.int .u32 7] 43)).grown hgr3 (fun e => by have := HHI.out _ e.symm; omega); have HK3 := Lib.hid k3; have HX3 := Lib.hid x3; have xc3 : w3.cell? ⟨w1.heap.size, 0, none⟩ = some (.slice A ls.length cp) := x3.cell 0; have xf3 := x3.frozen 0; have kc3 : w3.cell? ⟨w.heap.size, 0, none⟩ = some (.slice none 0 0) := k3.cell 0; have kf3 := k3.frozen 0; have HO3 := Lib.hid hown3; have HGR := Lib.hid hgr3; clear hown3 hgr3 k3 x3)
    have hne := box_ne HX3.out HO3.out (by decide)
    have ho4 := World.ownsRow.kept HO3.out (only_setCell (p := ⟨w1.heap.size, 0, none⟩) (World.grownBy.refl w3 (some w1.heap.size)) (.inl rfl) (.slice A3 (ls.length + 1) c3)) (.inr fun e => hne e.symm)
    have hk4 : Blk (w3.setCell ⟨w1.heap.size, 0, none⟩ (.slice A3 (ls.length + 1) c3)) w.heap.size 26 #[.slice none 0 0] := HK3.out.far (p := ⟨w1.heap.size, 0, none⟩) (by show w.heap.size ≠ w1.heap.size; omega) _
    have e0 : _ = some _ := (st_blk hk4 (.slice A3 (ls.length + 1) c3)).cell 0
    have hcur := ((HC2.out.grown (World.grownBy_alloc w2 (.cells #[.int .u32 7] 43) none) (fun _ h => by cases h)).grown HGR.out (fun k hk => by have := HLO.out k hk; have := HGL.out; omega)).grown (only_setCell (p := ⟨w1.heap.size, 0, none⟩) (World.grownBy.refl w3 (some w1.heap.size)) (.inl rfl) (.slice A3 (ls.length + 1) c3)) (fun k hk => by injection hk with hk; have := HGL.out; omega)
    have hon := only_app (only_alloc HG2.out (.cells #[.int .u32 7] 43)) HGR.out (fun k hk => Nat.le_trans (Nat.le_succ _) (HLO.out k hk))
    exact bodyPost_ret (v := stA (.slice A3 (ls.length + 1) c3)) (by simp [results, Try.results58, e0, go_sem]) rfl
      ⟨_, ls ++ [7], rfl, by rw [List.length_append]; simp; omega, small_seven HS.out, by rw [List.length_append, List.map_append]; exact (own_put ho4 (Nat.lt_succ_self _) _).mono (Nat.le_succ _), hcur.grown (only_setCell (p := ⟨w.heap.size, 0, none⟩) (World.grownBy.refl _ (some w.heap.size)) (.inl rfl) _) (fun k hk => by injection hk with hk; have := HGL.out; omega), only_setCell (only_setCell hon (.inr (Nat.le_of_lt hlt1)) _) (.inr (Nat.le_refl _)) _⟩
  have b0 : (y == 0) = false := by simpa using h0
  by_cases h1 : y = 1
  · have b1 : (y == 1) = true := by simpa using h1
    clear h0 h1 hy0 hy2 x2 xf2
    have HW := Lib.hid (below_any g 3 (by omega) (by omega) w2 HC2.out)
    go_wp2_with fail
    refine HW.out.mono ?_
    rintro e w3 ⟨z, rfl, ⟨hz0', hz1'⟩, hc3, hg3⟩
    have hz2' : z ≤ 2 := by simpa using hz1'
    obtain ⟨m, rfl⟩ : ∃ m : Nat, z = m := ⟨z.toNat, by omega⟩
    have hm : (64 : Int) * (11 + (m : Int)) = ((64 * (11 + m) : Nat) : Int) := by omega
    have HM := Lib.hid hm
    have hm2 : m ≤ 2 := by omega
    have k3 := HK2.out.grown hg3 (fun e => by injection e with e; have := HGL.out; omega)
    have c3 : w3.cell? ⟨w.heap.size, 0, none⟩ = some (.slice none 0 0) := k3.cell 0
    have f3 := k3.frozen 0
    have HK3 := Lib.hid k3
    have HG3 := Lib.hid (only_trans HG2.out hg3)
    have HC3 := Lib.hid hc3
    clear hm hz0' hz1' hz2' hc3 hg3 k3 c2 f2
    go_wp2_with (at_make; refine wpList_make_full _ rfl _ _ _ rfl (w.heap.size + 1) 43 i0 (.int .u32 0) 1 Try.underlying24 hinf hz0 hz1 .i64 .i64 _ _ (64 * (11 + m)) rfl rfl HM.out HM.out (by rw [hz2]; omega) (by unfold maxLen; omega) (by have := HK3.out.lt; omega) ?_; intro w4 hown4 hgr4; have k4 := HK3.out.grown hgr4 (by simp); have c4 : w4.cell? ⟨w.heap.size, 0, none⟩ = some (.slice none 0 0) := k4.cell 0; have f4 := k4.frozen 0; have HK4 := Lib.hid k4; rw [zeros_u32] at hown4; have HO4 := Lib.hid hown4; have HGR := Lib.hid hgr4; clear hown4 hgr4 k4)
    have e0 : _ = some _ := (st_blk HK4.out (.slice (some ⟨w3.heap.size, 0, none⟩) (64 * (11 + m)) (64 * (11 + m)))).cell 0
    exact bodyPost_ret (v := stA (.slice (some ⟨w3.heap.size, 0, none⟩) (64 * (11 + m)) (64 * (11 + m)))) (by simp [results, Try.results58, e0, go_sem]) rfl
      ⟨_, List.replicate (64 * (11 + m)) 0, rfl, by rw [List.length_replicate]; omega, fun x hx => by rw [(List.mem_replicate.1 hx).2]; omega, by rw [List.length_replicate]; exact (own_put HO4.out (Nat.lt_succ_self _) _).mono (Nat.le_succ _), (HC3.out.grown HGR.out (fun _ h => by cases h)).grown (only_setCell (p := ⟨w.heap.size, 0, none⟩) (World.grownBy.refl w4 (some w.heap.size)) (.inl rfl) _) (fun k hk => by injection hk with hk; have := HGL.out; omega), only_setCell (only_trans HG3.out (World.grownBy.but HGR.out _)) (.inr (Nat.le_refl _)) _⟩
  have b1 : (y == 1) = false := by simpa using h1
  by_cases h2 : y = 2
  · have b2 : (y == 2) = true := by simpa using h2
    clear h0 h1 h2 hy0 hy2
    go_wp2_with fail
    have e0 : _ = some _ := (st_blk HK2.out (.slice none 0 0)).cell 0
    exact bodyPost_ret (v := stA (.slice none 0 0)) (by simp [results, Try.results58, e0, go_sem]) rfl
      ⟨_, [], rfl, Nat.zero_le _, fun x hx => absurd hx List.not_mem_nil, World.ownsRow_nil _ _ _ _, HC2.out.grown (only_setCell (p := ⟨w.heap.size, 0, none⟩) (World.grownBy.refl w2 (some w.heap.size)) (.inl rfl) _) (fun k hk => by injection hk with hk; have := HGL.out; omega), only_setCell HG2.out (.inr (Nat.le_refl _)) _⟩
  have b2 : (y == 2) = false := by simpa using h2
  clear h0 h1 h2 hy0 hy2
  go_wp2_with fail
  have e0 : _ = some _ := (st_blk HK2.out (.slice A ls.length cp)).cell 0
  exact bodyPost_ret (v := stA (.slice A ls.length cp)) (by simp [results, Try.results58, e0, go_sem]) rfl
    ⟨_, ls, rfl, by omega, HS.out, (own_put HO2.out (Nat.lt_succ_self _) _).mono (Nat.le_succ _), HC2.out.grown (only_setCell (p := ⟨w.heap.size, 0, none⟩) (World.grownBy.refl w2 (some w.heap.size)) (.inl rfl) _) (fun k hk => by injection hk with hk; have := HGL.out; omega), only_setCell HG2.out (.inr (Nat.le_refl _)) _⟩
end Go.Proofs.Ytcddkcejjajlhaa
