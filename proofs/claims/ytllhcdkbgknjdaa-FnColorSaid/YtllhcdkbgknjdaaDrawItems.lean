/-
  The model's draws of items, of an item and a kind.
-/
import Derived.Test.YtllhcdkbgknjdaaDraws
import Derived.Test.YtllhcdkbgknjdaaSpecRecolor
import Derived.Deep.RegionWith
namespace Go.Proofs.Ytllhcdkbgknjdaa
open Go.RowKit Go

/-- A number of 32 bits with a sign is drawn. -/
def DrewI (g : Nat) (w : World) (e : Ending) (w' : World) : Prop := ∃ z : Int, e = .returned (.int .i32 z) ∧ (-2147483648 ≤ z ∧ z ≤ 2147483647) ∧ CurAt w' g ∧ w.grownBy w' (some g)
theorem i32_rng (x : Int) : -2147483648 ≤ wrap32 x ∧ wrap32 x ≤ 2147483647 := by unfold wrap32; omega
theorem drewi (g : Nat) (w w' : World) (z : Int) (h : -2147483648 ≤ z ∧ z ≤ 2147483647) (hc : CurAt w' g) (hg : w.grownBy w' (some g)) : DrewI g w (.returned (.int .i32 z)) w' := ⟨z, rfl, h, hc, hg⟩

set_option maxHeartbeats 2000000 in
theorem drawint_any (g : Nat) (w : World) (hc : CurAt w g) : Calls Try.prog 30 #[.pointer (some ⟨g, 0, none⟩)] w (DrewI g w) := by
  have hgl := cur_lt hc
  have HO := Lib.hid (once_any g 2 (by decide) w hc)
  clear hc
  go_enter Try.func30, Try.ntmps30
  go_wp2_with fail
  refine HO.out.mono ?_
  rintro e w1 ⟨b, rfl, hc1, hg1⟩
  have hgl1 : g < w1.heap.size := by have := hg1.size; omega
  have HG1 := Lib.hid hg1
  have HC1 := Lib.hid hc1
  clear hg1 hc1 HO
  cases b with
  | true =>
    have HB := Lib.hid (below_any g 200 (by omega) (by omega) w1 HC1.out)
    go_wp2_with fail
    refine HB.out.mono ?_
    rintro e w2 ⟨y, rfl, ⟨hy0, hy1⟩, hc2, hg2⟩
    have hy2 : y ≤ 199 := by simpa using hy1
    have HG2 := Lib.hid (only_trans HG1.out hg2)
    have HC2 := Lib.hid hc2
    clear hg2 hc2 hy1 HB
    go_wp2_with fail
    go_ret
    exact drewi g w w2 _ (by first | exact i32_rng _ | omega) HC2.out HG2.out
  | false =>
    have HP := Lib.hid (pickint_any g w1.heap.size [0, 67108863, 67108864, -67108864, -67108865, 2147483647, -2147483648, 1000000, -1] _ (HC1.out.grown (World.grownBy_alloc w1 _ none) (fun _ h => by cases h)) (ints_new w1 3 [0, 67108863, 67108864, -67108864, -67108865, 2147483647, -2147483648, 1000000, -1]) (by omega) (by simp) (by decide) (by decide))
    go_wp2_with fail
    refine HP.out.mono ?_
    rintro e w2 ⟨y, rfl, hy, hc2, hg2⟩
    have HG2 := Lib.hid (only_trans (only_alloc HG1.out _) hg2)
    have HC2 := Lib.hid hc2
    clear hg2 hc2 hy HP
    go_wp2_with fail
    go_ret
    exact drewi g w w2 _ (i32_rng _) HC2.out HG2.out
/-- An item is drawn. -/
def DrewIt (g : Nat) (w : World) (e : Ending) (w' : World) : Prop := ∃ it : It, e = .returned (itVal it) ∧ ItIn it ∧ it.name.size ≤ 100 ∧ CurAt w' g ∧ w.grownBy w' (some g)
/-- What is drawn lies in the first new block. -/
theorem drawn_end {w W : World} {g : Nat} (hgl : g < w.heap.size) (hc : CurAt W g) (hg : w.grownBy W (some g)) (k : Int) (nm : ByteArray) (n : Int) (x : Bool) (r : Int) :
    CurAt (putAll W w.heap.size k nm n x r) g ∧ w.grownBy (putAll W w.heap.size k nm n x r) (some g) := by
  have hb : W.grownBy (putAll W w.heap.size k nm n x r) (some w.heap.size) := by
    have h0 := World.grownBy.refl W (some w.heap.size)
    exact only_setCell (only_setCell (only_setCell (only_setCell (only_setCell h0 (.inl rfl) _) (.inl rfl) _) (.inl rfl) _) (.inl rfl) _) (.inl rfl) _
  refine ⟨hc.grown hb (fun k hk => by obtain rfl := Option.some.inj hk; exact hgl), ?_⟩
  exact only_setCell (only_setCell (only_setCell (only_setCell (only_setCell hg (.inr (Nat.le_refl _)) _) (.inr (Nat.le_refl _)) _) (.inr (Nat.le_refl _)) _) (.inr (Nat.le_refl _)) _) (.inr (Nat.le_refl _)) _
theorem res_kept {w W : World} {g : Nat} (hgl : g < w.heap.size) (hg : (w.alloc (.cells (itC 0 ⟨#[]⟩ 0 false 0) 26)).grownBy W (some g)) : Blk W w.heap.size 26 (itC 0 ⟨#[]⟩ 0 false 0) :=
  (Blk.new w _ _).grown hg (fun e => by have := Option.some.inj e; omega)
def drawnVars : List ByteArray := [⟨#[120]⟩, ⟨#[97, 116]⟩, ⟨#[113, 113, 113, 113]⟩, ⟨#[116, 101, 110]⟩]
theorem drawnVars_size : ∀ x ∈ drawnVars, x.size ≤ 9 := by decide

set_option maxHeartbeats 8000000 in
theorem drawsome_any (g : Nat) (w : World) (hc : CurAt w g) : Calls Try.prog 22 #[.pointer (some ⟨g, 0, none⟩)] w (DrewIt g w) := by
  have HGL := Lib.hid (cur_lt hc)
  have HC0 := Lib.hid (below_any g 8 (by omega) (by omega) _ (hc.grown (World.grownBy_alloc w (.cells (itC 0 ⟨#[]⟩ 0 false 0) 26) none) (fun _ h => by cases h)))
  clear hc
  go_enter Try.func22, Try.ntmps22
  go_wp2_with fail
  refine HC0.out.mono ?_
  rintro e w1 ⟨y, rfl, ⟨hy0, hy1⟩, hc1, hg1⟩
  have hy2 : y ≤ 7 := by simpa using hy1
  have HG1 := Lib.hid hg1
  have HC1 := Lib.hid hc1
  clear hc1 hg1 hy1 HC0
  by_cases h0 : y = 0
  · have b0 : (y == 0) = true := by simpa using h0
    clear h0 hy0 hy2
    go_wp2_with fail
    refine (drawint_any g w1 HC1.out).mono ?_
    rintro e w2 ⟨z, rfl, hz, hc2, hg2⟩
    have HO := Lib.hid (once_any g 3 (by decide) w2 hc2)
    have HG2 := Lib.hid (only_trans HG1.out hg2)
    clear hc2 hg2
    go_wp2_with fail
    refine HO.out.mono ?_
    rintro e w3 ⟨b, rfl, hc3, hg3⟩
    have HG3 := Lib.hid (only_trans HG2.out hg3)
    have HC := Lib.hid hc3
    have HG := Lib.hid (only_trans (World.grownBy_alloc w (.cells (itC 0 ⟨#[]⟩ 0 false 0) 26) (some g)) HG3.out)
    clear hc3 hg3 HO HG1 HC1 HG2
    have kr := res_kept HGL.out HG3.out
    obtain ⟨d0, d1, d2, d3, d4, f0, f1, f2, f3, f4⟩ := itC_cells kr
    have KR := Lib.hid kr
    clear kr
    go_wp2_with fail
    have hk := putAll_blk KR.out (7) ⟨#[]⟩ (z) b 0
    have hd := drawn_end HGL.out HC.out HG.out (7) ⟨#[]⟩ (z) b 0
    show bodyPost _ _ _ _ _ (putAll w3 w.heap.size (7) ⟨#[]⟩ (z) b 0)
    generalize putAll w3 w.heap.size (7) ⟨#[]⟩ (z) b 0 = W5 at hk hd ⊢
    obtain ⟨e0, e1, e2, e3, e4, -⟩ := itC_cells hk
    clear hk
    exact bodyPost_ret (v := itA (7) ⟨#[]⟩ (z) b 0) (by simp [results, Try.results22, e0, e1, e2, e3, e4, go_sem]) rfl ⟨⟨7, ⟨#[]⟩, z, b, 0⟩, rfl, ⟨by show (-9223372036854775808 : Int) ≤ 7; decide, by show (7 : Int) ≤ 9223372036854775807; decide, hz.1, hz.2, by show 0 < 4294967296; decide, by show 0 ≤ 4611686018427387904; decide⟩, by show 0 ≤ 100; decide, hd.1, hd.2⟩
  have b0 : (y == 0) = false := by simpa using h0
  by_cases h1 : y = 1
  · have b1 : (y == 1) = true := by simpa using h1
    clear h0 h1 hy0 hy2
    go_wp2_with fail
    refine (drawint_any g w1 HC1.out).mono ?_
    rintro e w2 ⟨z, rfl, hz, hc2, hg2⟩
    have HO := Lib.hid (once_any g 3 (by decide) w2 hc2)
    have HG2 := Lib.hid (only_trans HG1.out hg2)
    clear hc2 hg2
    go_wp2_with fail
    refine HO.out.mono ?_
    rintro e w3 ⟨b, rfl, hc3, hg3⟩
    have HG3 := Lib.hid (only_trans HG2.out hg3)
    have HC := Lib.hid hc3
    have HG := Lib.hid (only_trans (World.grownBy_alloc w (.cells (itC 0 ⟨#[]⟩ 0 false 0) 26) (some g)) HG3.out)
    clear hc3 hg3 HO HG1 HC1 HG2
    have kr := res_kept HGL.out HG3.out
    obtain ⟨d0, d1, d2, d3, d4, f0, f1, f2, f3, f4⟩ := itC_cells kr
    have KR := Lib.hid kr
    clear kr
    go_wp2_with fail
    have hk := putAll_blk KR.out (8) ⟨#[]⟩ (z) b 0
    have hd := drawn_end HGL.out HC.out HG.out (8) ⟨#[]⟩ (z) b 0
    show bodyPost _ _ _ _ _ (putAll w3 w.heap.size (8) ⟨#[]⟩ (z) b 0)
    generalize putAll w3 w.heap.size (8) ⟨#[]⟩ (z) b 0 = W5 at hk hd ⊢
    obtain ⟨e0, e1, e2, e3, e4, -⟩ := itC_cells hk
    clear hk
    exact bodyPost_ret (v := itA (8) ⟨#[]⟩ (z) b 0) (by simp [results, Try.results22, e0, e1, e2, e3, e4, go_sem]) rfl ⟨⟨8, ⟨#[]⟩, z, b, 0⟩, rfl, ⟨by show (-9223372036854775808 : Int) ≤ 8; decide, by show (8 : Int) ≤ 9223372036854775807; decide, hz.1, hz.2, by show 0 < 4294967296; decide, by show 0 ≤ 4611686018427387904; decide⟩, by show 0 ≤ 100; decide, hd.1, hd.2⟩
  have b1 : (y == 1) = false := by simpa using h1
  by_cases h2 : y = 2
  · have b2 : (y == 2) = true := by simpa using h2
    clear h0 h1 h2 hy0 hy2
    have hs1 : g < w1.heap.size := by have h5 := HG1.out.size; have h6 := HGL.out; simp at h5; omega
    have HP := Lib.hid (pick_any g w1.heap.size drawnVars _ (HC1.out.grown (World.grownBy_alloc w1 _ none) (fun _ h => by cases h)) (strs_new w1 9 drawnVars) (by omega) (by simp) (by decide) (by decide))
    clear hs1
    go_wp2_with fail
    refine HP.out.mono ?_
    rintro e w2 ⟨s, rfl, hs, hc2, hg2⟩
    have hs9 := drawnVars_size s hs
    have HI := Lib.hid (drawint_any g w2 hc2)
    have HG2 := Lib.hid (only_trans (only_alloc HG1.out _) hg2)
    clear hs hc2 hg2 HP
    go_wp2_with fail
    refine HI.out.mono ?_
    rintro e w3 ⟨z, rfl, hz, hc3, hg3⟩
    have HG3 := Lib.hid (only_trans HG2.out hg3)
    have HC := Lib.hid hc3
    have HG := Lib.hid (only_trans (World.grownBy_alloc w (.cells (itC 0 ⟨#[]⟩ 0 false 0) 26) (some g)) HG3.out)
    clear hc3 hg3 HI HG1 HC1 HG2
    have kr := res_kept HGL.out HG3.out
    obtain ⟨d0, d1, d2, d3, d4, f0, f1, f2, f3, f4⟩ := itC_cells kr
    have KR := Lib.hid kr
    clear kr
    go_wp2_with fail
    have hk := putAll_blk KR.out (9) s (z) false 0
    have hd := drawn_end HGL.out HC.out HG.out (9) s (z) false 0
    show bodyPost _ _ _ _ _ (putAll w3 w.heap.size (9) s (z) false 0)
    generalize putAll w3 w.heap.size (9) s (z) false 0 = W5 at hk hd ⊢
    obtain ⟨e0, e1, e2, e3, e4, -⟩ := itC_cells hk
    clear hk
    exact bodyPost_ret (v := itA (9) s (z) false 0) (by simp [results, Try.results22, e0, e1, e2, e3, e4, go_sem]) rfl ⟨⟨9, s, z, false, 0⟩, rfl, ⟨by show (-9223372036854775808 : Int) ≤ 9; decide, by show (9 : Int) ≤ 9223372036854775807; decide, hz.1, hz.2, by show 0 < 4294967296; decide, by show s.size ≤ 4611686018427387904; omega⟩, by show s.size ≤ 100; omega, hd.1, hd.2⟩
  have b2 : (y == 2) = false := by simpa using h2
  clear h0 h1 h2 hy0 hy2
  have HB := Lib.hid (below_any g 6 (by omega) (by omega) w1 HC1.out)
  go_wp2_with fail
  refine HB.out.mono ?_
  rintro e w2 ⟨k, rfl, ⟨hk0, hk1⟩, hc2, hg2⟩
  have hk2 : k ≤ 5 := by simpa using hk1
  have HN := Lib.hid (name_any g w2 hc2)
  have HG2 := Lib.hid (only_trans HG1.out hg2)
  clear hc2 hg2 hk1 HB
  go_wp2_with fail
  refine HN.out.mono ?_
  rintro e w3 ⟨s, rfl, hs9, hc3, hg3⟩
  have HG3 := Lib.hid (only_trans HG2.out hg3)
  have HC := Lib.hid hc3
  have HG := Lib.hid (only_trans (World.grownBy_alloc w (.cells (itC 0 ⟨#[]⟩ 0 false 0) 26) (some g)) HG3.out)
  clear hc3 hg3 HN HG1 HC1 HG2
  have kr := res_kept HGL.out HG3.out
  obtain ⟨d0, d1, d2, d3, d4, f0, f1, f2, f3, f4⟩ := itC_cells kr
  have KR := Lib.hid kr
  clear kr
  go_wp2_with fail
  have hk := putAll_blk KR.out (1 + k) s (0) false 0
  have hd := drawn_end HGL.out HC.out HG.out (1 + k) s (0) false 0
  show bodyPost _ _ _ _ _ (putAll w3 w.heap.size (1 + k) s (0) false 0)
  generalize putAll w3 w.heap.size (1 + k) s (0) false 0 = W5 at hk hd ⊢
  obtain ⟨e0, e1, e2, e3, e4, -⟩ := itC_cells hk
  clear hk
  exact bodyPost_ret (v := itA (1 + k) s (0) false 0) (by simp [results, Try.results22, e0, e1, e2, e3, e4, go_sem]) rfl ⟨⟨1 + k, s, 0, false, 0⟩, rfl, ⟨by show (-9223372036854775808 : Int) ≤ 1 + k; omega, by show 1 + k ≤ 9223372036854775807; omega, by show (-2147483648 : Int) ≤ 0; decide, by show (0 : Int) ≤ 2147483647; decide, by show 0 < 4294967296; decide, by show s.size ≤ 4611686018427387904; omega⟩, by show s.size ≤ 100; omega, hd.1, hd.2⟩
end Go.Proofs.Ytllhcdkbgknjdaa

namespace Go.Proofs.Ytllhcdkbgknjdaa
open Go.RowKit Go

def drawnBad : List ByteArray := [⟨#[]⟩, ⟨#[65]⟩, ⟨#[113, 113, 113, 113, 113]⟩, ⟨#[115, 113, 117, 97, 114, 101, 115, 113, 117, 97, 114, 101]⟩]
theorem drawnBad_size : ∀ x ∈ drawnBad, x.size ≤ 12 := by decide
theorem it_new {w W : World} {g : Nat} {k : Int} {nm : ByteArray} {n : Int} {x : Bool} {r : Int} (hgl : g < w.heap.size) (hg : (w.alloc (.cells (itC k nm n x r) 26)).grownBy W (some g)) : Blk W w.heap.size 26 (itC k nm n x r) :=
  (Blk.new w _ _).grown hg (fun e => by have := Option.some.inj e; omega)

set_option maxHeartbeats 8000000 in
theorem drawany_any (g : Nat) (w : World) (hc : CurAt w g) : Calls Try.prog 14 #[.pointer (some ⟨g, 0, none⟩)] w (DrewIt g w) := by
  have HGL := Lib.hid (cur_lt hc)
  have HC0 := Lib.hid (drawsome_any g _ (hc.grown (World.grownBy_alloc w (.cells (itC 0 ⟨#[]⟩ 0 false 0) 26) none) (fun _ h => by cases h)))
  clear hc
  go_enter Try.func14, Try.ntmps14
  go_wp2_with fail
  refine HC0.out.mono ?_
  rintro e w1 ⟨it, rfl, hin, hsz, hc1, hg1⟩
  obtain ⟨k, nm, n, x, r⟩ := it
  have HIN := Lib.hid hin
  have HSZ := Lib.hid hsz
  have hs1 : w.heap.size < w1.heap.size := by have h5 := hg1.size; simp at h5; omega
  have HS1 := Lib.hid hs1
  have hc2 := hc1.grown (World.grownBy_alloc w1 (.cells (itC k nm n x (r : Int)) 26) none) (fun _ h => by cases h)
  have HG1 := Lib.hid (only_alloc hg1 (.cells (itC k nm n x (r : Int)) 26))
  have HB := Lib.hid (below_any g 14 (by omega) (by omega) _ hc2)
  clear hc1 hg1 hin hsz hs1 hc2 HC0
  go_wp2_with fail
  refine HB.out.mono ?_
  rintro e w2 ⟨y, rfl, ⟨hy0, hy1⟩, hc2, hg2⟩
  have hy2 : y ≤ 13 := by simpa using hy1
  have hs2 : w1.heap.size < w2.heap.size := by have h5 := hg2.size; simp at h5; omega
  have KB := Lib.hid (it_new (Nat.lt_trans HGL.out HS1.out) hg2)
  have HG2 := Lib.hid (only_trans HG1.out hg2)
  have HC2 := Lib.hid hc2
  have HS2 := Lib.hid hs2
  clear hc2 hg2 hy1 HB hs2 HG1
  by_cases h0 : y = 0
  · have b0 : (y == 0) = true := by simpa using h0
    clear h0 hy0 hy2
    have HW := Lib.hid (word_any g w2 HC2.out)
    go_wp2_with fail
    refine HW.out.mono ?_
    rintro e w3 ⟨z, rfl, hz, hc3, hg3⟩
    have HG3 := only_trans HG2.out hg3
    have HC := Lib.hid hc3
    have HG := Lib.hid (only_trans (World.grownBy_alloc w (.cells (itC 0 ⟨#[]⟩ 0 false 0) 26) (some g)) HG3)
    have kr := res_kept HGL.out HG3
    obtain ⟨d0, d1, d2, d3, d4, f0, f1, f2, f3, f4⟩ := itC_cells kr
    have KR := Lib.hid kr
    have HZ := Lib.hid hz
    clear hc3 hg3 HG3 kr HW HC2 HG2 hz
    go_wp2_with fail
    have hk := putAll_blk KR.out (0) ⟨#[]⟩ (0) false (z : Int)
    have hd := drawn_end HGL.out HC.out HG.out (0) ⟨#[]⟩ (0) false (z : Int)
    show bodyPost _ _ _ _ _ (putAll w3 w.heap.size (0) ⟨#[]⟩ (0) false (z : Int))
    generalize putAll w3 w.heap.size (0) ⟨#[]⟩ (0) false (z : Int) = W5 at hk hd ⊢
    obtain ⟨e0, e1, e2, e3, e4, -⟩ := itC_cells hk
    clear hk
    exact bodyPost_ret (v := itA (0) ⟨#[]⟩ (0) false (z : Int)) (by simp [results, Try.results14, e0, e1, e2, e3, e4, go_sem]) rfl ⟨⟨0, ⟨#[]⟩, 0, false, z⟩, rfl, ⟨by show (-9223372036854775808 : Int) ≤ 0; decide, by show (0 : Int) ≤ 9223372036854775807; decide, by show (-2147483648 : Int) ≤ 0; decide, by show (0 : Int) ≤ 2147483647; decide, HZ.out, by show 0 ≤ 4611686018427387904; decide⟩, by show 0 ≤ 100; decide, hd.1, hd.2⟩
  have b0 : (y == 0) = false := by simpa using h0
  by_cases h1 : y = 1
  · have b1 : (y == 1) = true := by simpa using h1
    clear h0 h1 hy0 hy2
    have HW := Lib.hid (below_any g 12 (by omega) (by omega) w2 HC2.out)
    go_wp2_with fail
    refine HW.out.mono ?_
    rintro e w3 ⟨z, rfl, ⟨hz0, hz1⟩, hc3, hg3⟩
    have hz2 : z ≤ 11 := by simpa using hz1
    have HG3 := only_trans HG2.out hg3
    have kb := KB.out.grown hg3 (fun e => by have := Option.some.inj e; have := HGL.out; have := HS1.out; omega)
    obtain ⟨c0, c1, c2, c3, c4, p0, p1, p2, p3, p4⟩ := itC_cells kb
    have hb3 : w3.grownBy (w3.setCell ⟨w1.heap.size, 0, none⟩ (.int .i64 (z - 1))) (some w1.heap.size) := only_setCell (World.grownBy.refl _ _) (.inl rfl) _
    have HC := Lib.hid (hc3.grown hb3 (fun k hk => by obtain rfl := Option.some.inj hk; exact Nat.lt_trans HGL.out HS1.out))
    have HG := Lib.hid (only_setCell (p := ⟨w1.heap.size, 0, none⟩) (only_trans (World.grownBy_alloc w (.cells (itC 0 ⟨#[]⟩ 0 false 0) 26) (some g)) HG3) (.inr (Nat.le_of_lt HS1.out)) (.int .i64 (z - 1)))
    have kr := res_kept HGL.out HG3
    obtain ⟨d0, d1, d2, d3, d4, f0, f1, f2, f3, f4⟩ := itC_cells kr
    have KR := Lib.hid (kr.far (p := ⟨w1.heap.size, 0, none⟩) (by have := HS1.out; show w.heap.size ≠ w1.heap.size; omega) (.int .i64 (z - 1)))
    have hlt : w.heap.size < w1.heap.size := HS1.out
    clear hc3 hg3 HG3 kr kb hb3 HW HC2 HG2 hz1
    go_wp2_with fail
    have hk := putAll_blk KR.out (z - 1) nm (n) x (r : Int)
    have hd := drawn_end HGL.out HC.out HG.out (z - 1) nm (n) x (r : Int)
    show bodyPost _ _ _ _ _ (putAll (w3.setCell ⟨w1.heap.size, 0, none⟩ (.int .i64 (z - 1))) w.heap.size (z - 1) nm (n) x (r : Int))
    generalize putAll (w3.setCell ⟨w1.heap.size, 0, none⟩ (.int .i64 (z - 1))) w.heap.size (z - 1) nm (n) x (r : Int) = W5 at hk hd ⊢
    obtain ⟨e0, e1, e2, e3, e4, -⟩ := itC_cells hk
    clear hk
    exact bodyPost_ret (v := itA (z - 1) nm (n) x (r : Int)) (by simp [results, Try.results14, e0, e1, e2, e3, e4, go_sem]) rfl ⟨⟨z - 1, nm, n, x, r⟩, rfl, ⟨by show (-9223372036854775808 : Int) ≤ z - 1; omega, by show z - 1 ≤ 9223372036854775807; omega, HIN.out.n1, HIN.out.n2, HIN.out.r, HIN.out.s⟩, HSZ.out, hd.1, hd.2⟩
  have b1 : (y == 1) = false := by simpa using h1
  by_cases h2 : y = 2
  · have b2 : (y == 2) = true := by simpa using h2
    clear h0 h1 h2 hy0 hy2
    have hs3 : g < w2.heap.size := by have := HS2.out; have := HS1.out; have := HGL.out; omega
    have HP := Lib.hid (pick_any g w2.heap.size drawnBad _ (HC2.out.grown (World.grownBy_alloc w2 _ none) (fun _ h => by cases h)) (strs_new w2 9 drawnBad) (by omega) (by simp) (by decide) (by decide))
    clear hs3
    go_wp2_with fail
    refine HP.out.mono ?_
    rintro e w3 ⟨s, rfl, hs, hc3, hg3⟩
    have hs12 := drawnBad_size s hs
    have HG3 := only_trans (only_alloc HG2.out _) hg3
    have kb := (KB.out.alloc _).grown hg3 (fun e => by have := Option.some.inj e; have := HGL.out; have := HS1.out; omega)
    obtain ⟨c0, c1, c2, c3, c4, p0, p1, p2, p3, p4⟩ := itC_cells kb
    have hb3 : w3.grownBy (w3.setCell ⟨w1.heap.size, 1, none⟩ (.string s)) (some w1.heap.size) := only_setCell (World.grownBy.refl _ _) (.inl rfl) _
    have HC := Lib.hid (hc3.grown hb3 (fun k hk => by obtain rfl := Option.some.inj hk; exact Nat.lt_trans HGL.out HS1.out))
    have HG := Lib.hid (only_setCell (p := ⟨w1.heap.size, 1, none⟩) (only_trans (World.grownBy_alloc w (.cells (itC 0 ⟨#[]⟩ 0 false 0) 26) (some g)) HG3) (.inr (Nat.le_of_lt HS1.out)) (.string s))
    have kr := res_kept HGL.out HG3
    obtain ⟨d0, d1, d2, d3, d4, f0, f1, f2, f3, f4⟩ := itC_cells kr
    have KR := Lib.hid (kr.far (p := ⟨w1.heap.size, 1, none⟩) (by have := HS1.out; show w.heap.size ≠ w1.heap.size; omega) (.string s))
    have hlt : w.heap.size < w1.heap.size := HS1.out
    clear hc3 hg3 HG3 kr kb hb3 HP HC2 HG2 hs
    go_wp2_with fail
    have hk := putAll_blk KR.out (k) s (n) x (r : Int)
    have hd := drawn_end HGL.out HC.out HG.out (k) s (n) x (r : Int)
    show bodyPost _ _ _ _ _ (putAll (w3.setCell ⟨w1.heap.size, 1, none⟩ (.string s)) w.heap.size (k) s (n) x (r : Int))
    generalize putAll (w3.setCell ⟨w1.heap.size, 1, none⟩ (.string s)) w.heap.size (k) s (n) x (r : Int) = W5 at hk hd ⊢
    obtain ⟨e0, e1, e2, e3, e4, -⟩ := itC_cells hk
    clear hk
    exact bodyPost_ret (v := itA (k) s (n) x (r : Int)) (by simp [results, Try.results14, e0, e1, e2, e3, e4, go_sem]) rfl ⟨⟨k, s, n, x, r⟩, rfl, ⟨HIN.out.k1, HIN.out.k2, HIN.out.n1, HIN.out.n2, HIN.out.r, by show s.size ≤ 4611686018427387904; omega⟩, by show s.size ≤ 100; omega, hd.1, hd.2⟩
  have b2 : (y == 2) = false := by simpa using h2
  by_cases h3 : y = 3
  · have b3 : (y == 3) = true := by simpa using h3
    clear h0 h1 h2 h3 hy0 hy2
    have HW := Lib.hid (below_any g 3 (by omega) (by omega) w2 HC2.out)
    go_wp2_with fail
    refine HW.out.mono ?_
    rintro e w3 ⟨z, rfl, ⟨hz0, hz1⟩, hc3, hg3⟩
    have hz2 : z ≤ 2 := by simpa using hz1
    obtain ⟨m, rfl⟩ : ∃ m : Nat, z = m := ⟨z.toNat, by omega⟩
    have HG3 := only_trans HG2.out hg3
    have kb := KB.out.grown hg3 (fun e => by have := Option.some.inj e; have := HGL.out; have := HS1.out; omega)
    obtain ⟨c0, c1, c2, c3, c4, p0, p1, p2, p3, p4⟩ := itC_cells kb
    have hb3 : w3.grownBy (w3.setCell ⟨w1.heap.size, 4, none⟩ (.int .u32 (m : Int))) (some w1.heap.size) := only_setCell (World.grownBy.refl _ _) (.inl rfl) _
    have HC := Lib.hid (hc3.grown hb3 (fun k hk => by obtain rfl := Option.some.inj hk; exact Nat.lt_trans HGL.out HS1.out))
    have HG := Lib.hid (only_setCell (p := ⟨w1.heap.size, 4, none⟩) (only_trans (World.grownBy_alloc w (.cells (itC 0 ⟨#[]⟩ 0 false 0) 26) (some g)) HG3) (.inr (Nat.le_of_lt HS1.out)) (.int .u32 (m : Int)))
    have kr := res_kept HGL.out HG3
    obtain ⟨d0, d1, d2, d3, d4, f0, f1, f2, f3, f4⟩ := itC_cells kr
    have KR := Lib.hid (kr.far (p := ⟨w1.heap.size, 4, none⟩) (by have := HS1.out; show w.heap.size ≠ w1.heap.size; omega) (.int .u32 (m : Int)))
    have hlt : w.heap.size < w1.heap.size := HS1.out
    have hmod : (m : Int) % 4294967296 = (m : Int) := by omega
    have hwr : IntKind.u32.wrap (m : Int) = (m : Int) := by rw [IntKind.wrap_u32]; omega
    clear hc3 hg3 HG3 kr kb hb3 HW HC2 HG2 hz1
    go_wp2_with fail
    have hk := putAll_blk KR.out (k) nm (n) x (m : Int)
    have hd := drawn_end HGL.out HC.out HG.out (k) nm (n) x (m : Int)
    show bodyPost _ _ _ _ _ (putAll (w3.setCell ⟨w1.heap.size, 4, none⟩ (.int .u32 (m : Int))) w.heap.size (k) nm (n) x (m : Int))
    generalize putAll (w3.setCell ⟨w1.heap.size, 4, none⟩ (.int .u32 (m : Int))) w.heap.size (k) nm (n) x (m : Int) = W5 at hk hd ⊢
    obtain ⟨e0, e1, e2, e3, e4, -⟩ := itC_cells hk
    clear hk
    exact bodyPost_ret (v := itA (k) nm (n) x (m : Int)) (by simp [results, Try.results14, e0, e1, e2, e3, e4, go_sem]) rfl ⟨⟨k, nm, n, x, m⟩, rfl, ⟨HIN.out.k1, HIN.out.k2, HIN.out.n1, HIN.out.n2, by show m < 4294967296; omega, HIN.out.s⟩, HSZ.out, hd.1, hd.2⟩
  have b3 : (y == 3) = false := by simpa using h3
  clear h0 h1 h2 h3 hy0 hy2
  obtain ⟨c0, c1, c2, c3, c4, p0, p1, p2, p3, p4⟩ := itC_cells KB.out
  have HC := Lib.hid HC2.out
  have HG := Lib.hid (only_trans (World.grownBy_alloc w (.cells (itC 0 ⟨#[]⟩ 0 false 0) 26) (some g)) HG2.out)
  have kr := res_kept HGL.out HG2.out
  obtain ⟨d0, d1, d2, d3, d4, f0, f1, f2, f3, f4⟩ := itC_cells kr
  have KR := Lib.hid kr
  have hlt : w.heap.size < w1.heap.size := HS1.out
  clear kr HC2 HG2
  go_wp2_with fail
  have hk := putAll_blk KR.out (k) nm (n) x (r : Int)
  have hd := drawn_end HGL.out HC.out HG.out (k) nm (n) x (r : Int)
  show bodyPost _ _ _ _ _ (putAll w2 w.heap.size (k) nm (n) x (r : Int))
  generalize putAll w2 w.heap.size (k) nm (n) x (r : Int) = W5 at hk hd ⊢
  obtain ⟨e0, e1, e2, e3, e4, -⟩ := itC_cells hk
  clear hk
  exact bodyPost_ret (v := itA (k) nm (n) x (r : Int)) (by simp [results, Try.results14, e0, e1, e2, e3, e4, go_sem]) rfl ⟨⟨k, nm, n, x, r⟩, rfl, HIN.out, HSZ.out, hd.1, hd.2⟩
end Go.Proofs.Ytllhcdkbgknjdaa

namespace Go.Proofs.Ytllhcdkbgknjdaa
open Go.RowKit Go

def DrewRec (w : World) (e : Ending) (w' : World) : Prop := ∃ (it : It) (k : Int), e = .returned (.tuple #[itVal it, .int .i64 k]) ∧ ItIn it ∧ it.name.size ≤ 100 ∧ (-1 ≤ k ∧ k ≤ 10) ∧ Below w.heap.size w w'
theorem cells5 {w : World} {g : Nat} {t : TypeId} {k : Int} {nm : ByteArray} {n : Int} {hx : Bool} {r : Int} (h : Blk w g t (itC k nm n hx r)) :
    w.cell? ⟨g, 0, none⟩ = some (.int .i64 k) ∧ w.cell? ⟨g, 1, none⟩ = some (.string nm) ∧ w.cell? ⟨g, 2, none⟩ = some (.int .i32 n) ∧ w.cell? ⟨g, 3, none⟩ = some (.bool hx) ∧ w.cell? ⟨g, 4, none⟩ = some (.int .u32 r) := by
  obtain ⟨a, b, c, d, e, -⟩ := itC_cells h
  exact ⟨a, b, c, d, e⟩

set_option maxHeartbeats 8000000 in
theorem drawrec_any (A : Option Addr) (len cap : Nat) (w : World) (hcode : CodeOk w w.heap.size A len) : Calls Try.prog 6 #[.slice A len cap] w (DrewRec w) := by
  have hcode2 : CodeOk (w.alloc (.cells (itC 0 ⟨#[]⟩ 0 false 0) 26)) (w.alloc (.cells (itC 0 ⟨#[]⟩ 0 false 0) 26)).heap.size A len := (hcode.below ((Below.refl _ _).alloc (Nat.le_refl _) _)).more (by simp)
  have HN := Lib.hid (new_any A len cap _ hcode2)
  clear hcode hcode2
  go_enter Try.func6, Try.ntmps6
  go_wp2_with fail
  refine HN.out.mono ?_
  rintro e w1 ⟨g, rfl, hg, hc1, hb1⟩
  have hgw : w.heap.size < g := by simp at hg; omega
  have kr1 := (Blk.new w 26 (itC 0 ⟨#[]⟩ 0 false 0)).below hb1 (by simp)
  have HB1 := Lib.hid (((Below.refl w.heap.size w).alloc (Nat.le_refl _) _).trans (hb1.mono (by simp)))
  have HD := Lib.hid (drawany_any g w1 hc1)
  have KR1 := Lib.hid kr1
  have HGW := Lib.hid hgw
  clear hb1 hc1 hg kr1 HN hgw
  go_wp2_with fail
  refine HD.out.mono ?_
  rintro e w2 ⟨it, rfl, hin, hsz, hc2, hg2⟩
  obtain ⟨k, nm, n, x, r⟩ := it
  have kr2 := KR1.out.grown hg2 (fun e => by have := Option.some.inj e; have := HGW.out; omega)
  have HB2 := Lib.hid (HB1.out.trans (below_of_only hg2 HB1.out.size (by have := HGW.out; omega)))
  have hgl := cur_lt hc2
  have hrl := kr2.lt
  have hc3 := hc2.grown (World.grownBy_alloc w2 (.cells (itC k nm n x (r : Int)) 26) none) (fun _ h => by cases h)
  have kb := Blk.new w2 26 (itC k nm n x (r : Int))
  have kr3 := kr2.alloc (.cells (itC k nm n x (r : Int)) 26)
  have hb3 := HB2.out.alloc HB2.out.size (.cells (itC k nm n x (r : Int)) 26)
  have HIN := Lib.hid hin
  have HSZ := Lib.hid hsz
  have hgb : g ≠ w2.heap.size := by omega
  have hrb : w.heap.size ≠ w2.heap.size := by omega
  clear hin hsz hc2 hg2 kr2 HD HB1 KR1 hgl hrl HB2
  go_wp2_with fail
  obtain ⟨B, hB⟩ : ∃ B, w2.heap.size = B := ⟨_, rfl⟩
  rw [hB] at kb hgb hrb ⊢
  change Code.wp _ _ _ _ (w2.alloc (.cells (itC k nm n x (r : Int)) 26))
  generalize w2.alloc (.cells (itC k nm n x (r : Int)) 26) = W2 at kb kr3 hb3 hc3 ⊢
  have HB := Lib.hid (below_any g 12 (by omega) (by omega) W2.drew hc3)
  have KB := Lib.hid kb
  have KR := Lib.hid kr3
  have HBW := Lib.hid hb3
  have HGW2 := Lib.hid HGW.out
  obtain ⟨c0, c1, c2, c3, c4⟩ := cells5 kb
  obtain ⟨d0, d1, d2, d3, d4, f0, f1, f2, f3, f4⟩ := itC_cells kr3
  have HGB := Lib.hid hgb
  clear hB kb kr3 hb3 hc3 hgb
  go_region_with (go_at_call 15; refine HB.out.mono ?_; rintro e w3 ⟨z, rfl, ⟨hz0, hz1⟩, hc3, hg3⟩; have HBL := Lib.hid (HBW.out.drew.trans (below_of_only hg3 HBW.out.size (Nat.le_of_lt HGW2.out))); have kb3 := KB.out.drew.grown hg3 (fun e => HGB.out (Option.some.inj e).symm); have kr3 := KR.out.drew.grown hg3 (fun e => Nat.ne_of_lt HGW2.out (Option.some.inj e)); obtain ⟨c0, c1, c2, c3, c4⟩ := cells5 kb3; obtain ⟨d0, d1, d2, d3, d4, f0, f1, f2, f3, f4⟩ := itC_cells kr3; have KR3 := Lib.hid kr3; clear kb3 kr3 hc3 hg3)
  all_goals
    have hz2 : z ≤ 11 := by simpa using hz1
    have hwr : IntKind.i64.wrap (z - 1) = z - 1 := by rw [IntKind.wrap_i64]; omega
    clear hz1
    go_wp2_with fail
    have hk := putAll_blk KR3.out k nm n x (r : Int)
    have hbl := putAll_below (g := w.heap.size) HBL.out (Nat.le_refl _) k nm n x (r : Int)
    show bodyPost _ _ _ _ _ (putAll w3 w.heap.size k nm n x (r : Int))
    generalize putAll w3 w.heap.size k nm n x (r : Int) = W5 at hk hbl ⊢
    obtain ⟨e0, e1, e2, e3, e4, -⟩ := itC_cells hk
    clear hk
    exact bodyPost_ret (v := .tuple #[itA k nm n x (r : Int), .int .i64 (z - 1)]) (by simp [results, Try.results6, e0, e1, e2, e3, e4, hwr, go_sem]) rfl ⟨⟨k, nm, n, x, r⟩, z - 1, rfl, HIN.out, HSZ.out, by omega, hbl⟩
end Go.Proofs.Ytllhcdkbgknjdaa
