/-
  The draws of the laws on stores.
-/
import Derived.Test.YtcddkcejjajlhaaDrawStore2
namespace Go.Proofs.Ytcddkcejjajlhaa
open Go.RowKit Go

attribute [local go_sem ↓] Go.wp_at_zero Go.wp_at_succ
def DrewCs (w : World) (e : Ending) (w' : World) : Prop := ∃ (v : Value) (ls : List Nat), e = .returned v ∧ ls.length ≤ 400 ∧ (∀ x ∈ ls, x < 4294967296) ∧ w'.ownsRow w.heap.size 43 1 v ls.length (ls.map u32v) ∧ Below w.heap.size w w'
set_option maxHeartbeats 2000000 in
theorem drawsum_any (A : Option Addr) (len cap : Nat) (w : World) (hcode : CodeOk w w.heap.size A len) : Calls Try.prog 28 #[.slice A len cap] w (DrewCs w) := by
  have HN := Lib.hid (new_any A len cap w hcode)
  clear hcode
  go_enter Try.func28, Try.ntmps28
  go_wp2_with fail
  refine HN.out.mono ?_
  rintro e w1 ⟨g, rfl, hg, hc1, hb1⟩
  have HD := Lib.hid (drawcells_any g w1 hc1)
  have HB1 := Lib.hid hb1
  clear hc1 hb1 HN
  go_wp2_with fail
  refine HD.out.mono ?_
  rintro e w2 ⟨v, ls, rfl, hl, hs, hown, hc2, hg2⟩
  have HB2 := Lib.hid (HB1.out.trans (below_of_only hg2 HB1.out.size hg))
  have HO := Lib.hid (hown.mono HB1.out.size)
  have HS := Lib.hid hs
  clear hown hc2 hg2 hs HD
  go_wp2_with fail
  go_ret
  exact ⟨v, ls, rfl, hl, HS.out, HO.out, HB2.out⟩
def DrewSt (w : World) (e : Ending) (w' : World) : Prop := ∃ (v : Value) (ls : List Nat), e = .returned (stA v) ∧ ls.length ≤ 1000 ∧ (∀ x ∈ ls, x < 4294967296) ∧ w'.ownsRow w.heap.size 43 1 v ls.length (ls.map u32v) ∧ Below w.heap.size w w'
set_option maxHeartbeats 2000000 in
theorem drawimg_any (A : Option Addr) (len cap : Nat) (w : World) (hcode : CodeOk w w.heap.size A len) : Calls Try.prog 16 #[.slice A len cap] w (DrewSt w) := by
  have hcode2 : CodeOk (w.alloc (.cells #[.slice none 0 0] 26)) (w.alloc (.cells #[.slice none 0 0] 26)).heap.size A len := (hcode.below ((Below.refl _ _).alloc (Nat.le_refl _) _)).more (by simp)
  have HN := Lib.hid (new_any A len cap _ hcode2)
  clear hcode hcode2
  go_enter Try.func16, Try.ntmps16
  go_wp2_with fail
  refine HN.out.mono ?_
  rintro e w1 ⟨g, rfl, hg, hc1, hb1⟩
  have hg1 : w.heap.size < g := by simp at hg; omega
  obtain ⟨k1, hB1, hz1⟩ := boxes1 hb1
  have HD := Lib.hid (drawstore_any g w1 hc1)
  have HB1 := Lib.hid hB1
  have K1 := Lib.hid k1
  clear hc1 hb1 HN hg k1 hB1
  go_wp2_with fail
  refine HD.out.mono ?_
  rintro e w2 ⟨v, ls, rfl, hl, hs, hown, hc2, hg2⟩
  have k2 := K1.out.grown hg2 (fun e => by injection e with e; omega)
  have c2 : w2.cell? ⟨w.heap.size, 0, none⟩ = some (.slice none 0 0) := k2.cell 0
  have f2 := k2.frozen 0
  have K2 := Lib.hid k2
  have HB2 := Lib.hid (HB1.out.trans (below_of_only hg2 HB1.out.size (by omega)))
  obtain ⟨A1, c1, rfl⟩ := own_form hown
  have HO := Lib.hid hown
  have HS := Lib.hid hs
  have hlt1 : w.heap.size < w1.heap.size := by omega
  clear hown hc2 hg2 hs HD k2 K1
  go_wp2_with fail
  have e0 : _ = some _ := (st_blk K2.out (.slice A1 ls.length c1)).cell 0
  exact bodyPost_ret (v := stA (.slice A1 ls.length c1)) (by simp [results, Try.results16, e0, go_sem]) rfl
    ⟨_, ls, rfl, hl, HS.out, (own_put HO.out hlt1 _).mono (Nat.le_of_lt hlt1), HB2.out.setCell (Nat.le_refl _) _⟩
def DrewPut (w : World) (e : Ending) (w' : World) : Prop := ∃ (v u : Value) (ls ys : List Nat) (b : Int), e = .returned (.tuple #[stA v, .int .i64 b, u]) ∧ (-1 ≤ b ∧ b ≤ 3) ∧ ls.length ≤ 1000 ∧ ys.length ≤ 400 ∧ (∀ x ∈ ls, x < 4294967296) ∧ (∀ x ∈ ys, x < 4294967296) ∧ w'.ownsRow w.heap.size 43 1 v ls.length (ls.map u32v) ∧ w'.ownsRow w.heap.size 43 1 u ys.length (ys.map u32v) ∧ Below w.heap.size w w'
set_option maxHeartbeats 2000000 in
theorem drawput_any (A : Option Addr) (len cap : Nat) (w : World) (hcode : CodeOk w w.heap.size A len) : Calls Try.prog 22 #[.slice A len cap] w (DrewPut w) := by
  have hcode2 : CodeOk (w.alloc (.cells #[.slice none 0 0] 26)) (w.alloc (.cells #[.slice none 0 0] 26)).heap.size A len := (hcode.below ((Below.refl _ _).alloc (Nat.le_refl _) _)).more (by simp)
  have HN := Lib.hid (new_any A len cap _ hcode2)
  clear hcode hcode2
  go_enter Try.func22, Try.ntmps22
  go_wp2_with fail
  refine HN.out.mono ?_
  rintro e w1 ⟨g, rfl, hg, hc1, hb1⟩
  have hg1 : w.heap.size < g := by simp at hg; omega
  obtain ⟨k1, hB1, hz1⟩ := boxes1 hb1
  have HD := Lib.hid (drawstore_any g w1 hc1)
  have HB1 := Lib.hid hB1
  have K1 := Lib.hid k1
  have hgl1 := cur_lt hc1
  clear hc1 hb1 HN hg k1 hB1
  go_wp2_with fail
  refine HD.out.mono ?_
  rintro e w2 ⟨v, ls, rfl, hl, hs, hown, hc2, hg2⟩
  obtain ⟨A1, c1, rfl⟩ := own_form hown
  have HB2 := Lib.hid (HB1.out.trans (below_of_only hg2 HB1.out.size (by omega)))
  have K2 := Lib.hid (K1.out.grown hg2 (fun e => by injection e with e; omega))
  have HO := Lib.hid hown
  have HS := Lib.hid hs
  have hs2 : w1.heap.size ≤ w2.heap.size := hg2.size
  have HBB := Lib.hid (below_any g 5 (by omega) (by omega) _ (hc2.grown (World.grownBy_alloc w2 (.cells #[.slice A1 ls.length c1] 26) none) (fun _ h => by cases h)))
  clear hown hc2 hg2 hs HD K1
  go_wp2_with fail
  refine HBB.out.mono ?_
  rintro e w3 ⟨y, rfl, ⟨hy0, hy1⟩, hc3, hg3⟩
  have hy2 : y ≤ 4 := by simpa using hy1
  have K3 := Lib.hid ((K2.out.alloc (.cells #[.slice A1 ls.length c1] 26)).grown hg3 (fun e => by injection e with e; omega))
  have X3 : Hid (Blk w3 w2.heap.size 26 #[.slice A1 ls.length c1]) := Lib.hid ((Blk.new w2 _ _).grown hg3 (fun e => by injection e with e; omega))
  have HO3 := Lib.hid (own_cur (HO.out.alloc (.cells #[.slice A1 ls.length c1] 26)) (by omega) hg3)
  have HB3 := Lib.hid ((HB2.out.alloc HB2.out.size (.cells #[.slice A1 ls.length c1] 26)).trans (below_of_only hg3 (by have := HB2.out.size; simp; omega) (by omega)))
  have HDC := Lib.hid (drawcells_any g w3.drew (hc3.grown (only_drew (World.grownBy.refl w3 none)) (fun _ h => by cases h)))
  have hs3 : w2.heap.size < w3.heap.size := X3.out.lt
  have cx : w3.cell? ⟨w2.heap.size, 0, none⟩ = some (.slice A1 ls.length c1) := X3.out.cell 0
  have ck : w3.cell? ⟨w.heap.size, 0, none⟩ = some (.slice none 0 0) := K3.out.cell 0
  have fk := K3.out.frozen 0
  clear hc3 hg3 HBB hy1 HO HB2 K2
  go_wp2_with fail
  have hne : w.heap.size ≠ w2.heap.size := by omega
  have hgn1 : w2.heap.size ≠ g := by omega
  have hgn2 : w.heap.size ≠ g := by omega
  go_region_held3 (fun w' => w'.cell? ⟨w2.heap.size, 0, none⟩ = some (.slice A1 ls.length c1)) (first | exact cx | exact hx4 | exact hx5) (first | (go_at_call 65; refine HDC.out.mono ?_; rintro e w4 ⟨u, ys, rfl, hyl, hys, howny, hc4, hg4⟩; obtain ⟨A4, c4, rfl⟩ := own_form howny; have x4 := (Blk.drew X3.out).grown hg4 (fun e => by injection e with e; omega); have k4 := (Blk.drew K3.out).grown hg4 (fun e => by injection e with e; omega); have hx4 : w4.cell? ⟨w2.heap.size, 0, none⟩ = some (.slice A1 ls.length c1) := x4.cell 0; have hx5 : (w4.setCell ⟨w.heap.size, 0, none⟩ (.slice A1 ls.length c1)).cell? ⟨w2.heap.size, 0, none⟩ = some (.slice A1 ls.length c1) := (x4.far (p := ⟨w.heap.size, 0, none⟩) hne.symm _).cell 0; have hk4 : w4.cell? ⟨w.heap.size, 0, none⟩ = some (.slice none 0 0) := k4.cell 0; have hf4 := k4.frozen 0; have HG4 := Lib.hid hg4; have HY := Lib.hid howny; have HYS := Lib.hid hys; have K4 := Lib.hid k4; clear hg4 howny hys hc4 x4 k4))
  have HO4 := Lib.hid (World.ownsRow.kept (World.ownsRow.drew HO3.out) HG4.out (own_ne HO3.out hgl1))
  have HB4 := Lib.hid (HB3.out.drew.trans (below_of_only HG4.out HB3.out.size (Nat.le_of_lt hg1)))
  have hsd : w3.drew.heap.size = w3.heap.size := rfl
  clear hx4 hx5 hk4 hf4 cx ck fk
  go_wp2_with fail
  have e0 : _ = some _ := (st_blk K4.out (.slice A1 ls.length c1)).cell 0
  exact bodyPost_ret (v := .tuple #[stA (.slice A1 ls.length c1), .int .i64 (y - 1), .slice A4 ys.length c4]) (by simp [results, Try.results22, e0, go_sem]) rfl
    ⟨_, _, ls, ys, y - 1, rfl, by omega, hl, hyl, HS.out, HYS.out, (own_put HO4.out (by show w.heap.size < w1.heap.size; omega) _).mono (by omega), (own_put HY.out (by show w.heap.size < w3.drew.heap.size; omega) _).mono (by omega), HB4.out.setCell (Nat.le_refl _) _⟩
end Go.Proofs.Ytcddkcejjajlhaa
