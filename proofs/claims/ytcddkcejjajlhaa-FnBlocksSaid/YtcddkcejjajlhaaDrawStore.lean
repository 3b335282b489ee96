/-
  Stores are drawn.
-/
import Derived.Test.YtcddkcejjajlhaaDrawCells
import Derived.Test.YtcddkcejjajlhaaPutBlk
import Derived.Deep.RegionHeld3
namespace Go.Proofs.Ytcddkcejjajlhaa
open Go.RowKit Go

attribute [local go_sem ↓] Go.wp_at_zero Go.wp_at_succ
/-- A store is drawn. -/
def DrewStore (b g : Nat) (w : World) (e : Ending) (w' : World) : Prop := ∃ (v : Value) (ls : List Nat), e = .returned (stA v) ∧ ls.length ≤ b ∧ (∀ x ∈ ls, x < 4294967296) ∧ w'.ownsRow w.heap.size 43 1 v ls.length (ls.map u32v) ∧ CurAt w' g ∧ w.grownBy w' (some g)
theorem rd_own3 {w : World} {base : Nat} {e : TypeId} {v : Value} {n : Nat} {ls : List Nat} (h : w.ownsRow base e 1 v n (ls.map u32v)) (hl : n ≤ 4611686018427387904) : RdN w v ls := by
  have hn : ls.length = n := by have := h.1; simpa using this
  subst hn
  exact RdN.of_own h hl
theorem lt_of_cell_d {w : World} {a : Addr} {n : Nat} {v : Value} (h : w.cell? (a.add n) = some v) : a.block < w.heap.size := by
  rcases Nat.lt_or_ge a.block w.heap.size with hl | hl
  · exact hl
  · have e : w.heap[(a.add n).block]? = none := by rw [addr_addb]; exact Array.getElem?_eq_none hl
    simp [World.cell?, e] at h
theorem newL_small (n : Int) : ∀ x ∈ newL n, x < 4294967296 := by
  intro x hx
  unfold newL at hx
  split at hx
  · rw [(List.mem_replicate.1 hx).2]; decide
  · cases hx
/-- The row's cells are some numbers. -/
def RowSome (wr : World) (base g2 L cap : Nat) : Prop := ∃ ls : List Nat, ls.length = L ∧ (∀ x ∈ ls, x < 4294967296) ∧ wr.ownsRow base 43 1 (.slice (some ⟨g2, 0, none⟩) L cap) L (ls.map u32v)
theorem RowSome.set {wr : World} {base g2 L cap j x : Nat} (h : RowSome wr base g2 L cap) (hx : x < 4294967296) : RowSome (wr.setCell ⟨g2, j, none⟩ (.int .u32 (x : Int))) base g2 L cap := by
  obtain ⟨ls, h1, h2, h3⟩ := h
  refine ⟨ls.set j x, by rw [List.length_set]; exact h1, fun y hy => ?_, ?_⟩
  · rcases List.mem_or_eq_of_mem_set hy with h | h
    · exact h2 y h
    · rw [h]; exact hx
  · have := (h3.stored j (.int .u32 (x : Int))).1
    rw [show Value.int .u32 (x : Int) = u32v x from rfl, ← List.map_set] at this
    exact this
theorem RowSome.cell {wr : World} {base g2 L cap j : Nat} (h : RowSome wr base g2 L cap) (hj : j < L) : ∃ u, wr.cell? ⟨g2, j, none⟩ = some u := by
  obtain ⟨ls, h1, h2, h3⟩ := h
  refine ⟨u32v (ls[j]'(by omega)), ?_⟩
  rw [h3.cellAt j (by omega)]
  simp [h1, hj]
theorem RowSome.frozen {wr : World} {base g2 L cap : Nat} (h : RowSome wr base g2 L cap) (j : Nat) : wr.frozen? ⟨g2, j, none⟩ = false := by
  obtain ⟨ls, h1, h2, h3⟩ := h
  exact h3.frozenAt j
theorem RowSome.kept {wr w' : World} {base g2 L cap : Nat} {row : Option Nat} (h : RowSome wr base g2 L cap) (hg : wr.grownBy w' row) (hne : some g2 ≠ row) : RowSome w' base g2 L cap := by
  obtain ⟨ls, h1, h2, h3⟩ := h
  exact ⟨ls, h1, h2, h3.kept hg (.inr hne)⟩

/-- Where the making stands. -/
structure MakeAt (w wr : World) (g g2 B base L cap : Nat) : Prop where
  cur : CurAt wr g
  only : w.grownBy wr (some g)
  row : RowSome wr base g2 L cap
  res : Blk wr w.heap.size 26 #[.slice none 0 0]
  box : Blk wr B 26 #[.slice (some ⟨g2, 0, none⟩) L cap]
theorem MakeAt.kept {w wr w' : World} {g g2 B base L cap : Nat} (h : MakeAt w wr g g2 B base L cap) (hg : wr.grownBy w' (some g2)) (hr : RowSome w' base g2 L cap) (h1 : g < g2) (h2 : w.heap.size ≤ g2) (h3 : w.heap.size ≠ g2) (h4 : B ≠ g2) : MakeAt w w' g g2 B base L cap :=
  ⟨h.cur.grown hg (fun k hk => by injection hk with hk; omega), only_app h.only hg (fun k hk => by injection hk with hk; omega), hr, h.res.grown hg (fun e => by injection e with e; omega), h.box.grown hg (fun e => by injection e with e; omega)⟩

set_option maxHeartbeats 8000000 in
theorem drawmake_any (g : Nat) (w : World) (hc : CurAt w g) : Calls Try.prog 79 #[.pointer (some ⟨g, 0, none⟩)] w (DrewStore 192 g w) := by
  have hgl := cur_lt hc
  have HB0 := Lib.hid (below_any g 3 (by omega) (by omega) _ (hc.grown (World.grownBy_alloc w (.cells #[.slice none 0 0] 26) none) (fun _ h => by cases h)))
  have HGL := Lib.hid hgl
  clear hc
  go_enter Try.func79, Try.ntmps79
  go_wp2_with fail
  refine HB0.out.mono ?_
  rintro e w1 ⟨y, rfl, ⟨hy0, hy1⟩, hc1, hg1⟩
  have hy2 : y ≤ 2 := by simpa using hy1
  have HNS := Lib.hid (spec_newstore (1 + y) w1)
  have k1 := (Blk.new w 26 #[.slice none 0 0]).grown hg1 (fun e => by injection e with e; omega)
  have HC1 := Lib.hid hc1
  have HG1 := Lib.hid (only_trans (World.grownBy_alloc w _ _) hg1)
  have K1 := Lib.hid k1
  have hnl : (newL (1 + y)).length = 64 * (1 + y).toNat := by unfold newL; rw [if_pos (by omega), List.length_replicate]
  have hsm := newL_small (1 + y)
  obtain ⟨L0, hL0⟩ : ∃ L, newL (1 + y) = L := ⟨_, rfl⟩
  rw [hL0] at HNS hnl hsm
  have HL1 := Lib.hid (show 0 < L0.length ∧ L0.length ≤ 192 by omega)
  have HSM := Lib.hid hsm
  clear hc1 hg1 k1 hy1 HB0 hL0 hsm hnl
  go_wp2_with fail
  refine HNS.out.mono ?_
  rintro e w2 ⟨v, rfl, hown, hb2⟩
  obtain ⟨g2, cap, cur, rfl, hrow⟩ := own_row hown HL1.out.1
  obtain ⟨L, hLL⟩ : ∃ L, L0.length = L := ⟨_, rfl⟩
  have HRS : Hid (RowSome w2 w1.heap.size g2 L cap) := Lib.hid ⟨L0, hLL, HSM.out, by rw [← hLL]; exact hown⟩
  have hg2 : w1.heap.size ≤ g2 := hrow.base
  have hg2' : g2 < w2.heap.size := hrow.lt
  have hL192 : L ≤ 192 := by have := HL1.out; omega
  have HC2 := Lib.hid (HC1.out.below hb2)
  have HG2 := Lib.hid (only_trans HG1.out (only_of_below hb2 _))
  have K2 := Lib.hid (K1.out.below hb2 K1.out.lt)
  have hlt1 : w.heap.size < w1.heap.size := K1.out.lt
  rw [hLL]
  clear hown hb2 hrow hLL HL1 HSM HNS HC1 HG1 K1
  go_wp2_with fail
  have hst : Hid (MakeAt w (w2.alloc (.cells #[.slice (some ⟨g2, 0, none⟩) L cap] 26)) g g2 w2.heap.size w1.heap.size L cap) := Lib.hid
    ⟨HC2.out.grown (World.grownBy_alloc w2 _ none) (fun _ h => by cases h), only_alloc HG2.out _, HRS.out.kept (World.grownBy_alloc w2 _ none) (by simp), K2.out.alloc _, Blk.new _ _ _⟩
  clear HC2 HG2 HRS K2
  have hb2s : w.heap.size ≤ g2 := by omega
  have hne1 : w.heap.size ≠ g2 := by omega
  have hne2 : w2.heap.size ≠ g2 := by omega
  have hgg : g < g2 := by omega
  go_loopw [4] (fun vb wr => ∃ b : Nat, vb = .int .i64 b ∧ b ≤ 3 ∧ Hid (MakeAt w wr g g2 w2.heap.size w1.heap.size L cap)) (fun vb _ => 4 - (intOf vb).toNat)
  case atStart => exact ⟨0, rfl, by omega, hst⟩
  case round =>
    clear hst
    obtain ⟨b, rfl, hb3, HM⟩ := hrel
    have cb : wr.cell? ⟨w2.heap.size, 0, none⟩ = some (.slice (some ⟨g2, 0, none⟩) L cap) := HM.out.box.cell 0
    by_cases hp : (b : Int) < (L : Int) / 64
    · have HD := Lib.hid (drawcells_any g wr HM.out.cur)
      go_wp2_with fail
      refine HD.out.mono ?_
      rintro e w3 ⟨v, zs, rfl, hzl, hzs, hown, hc3, hg3⟩
      have hs3 : wr.heap.size ≤ w3.heap.size := hg3.size
      have hgr : g2 < wr.heap.size := by
        obtain ⟨ls, _, _, h⟩ := HM.out.row
        exact (World.ownsRow.lt h g2 rfl).2
      have HM3 : Hid (MakeAt w w3 g g2 w2.heap.size w1.heap.size L cap) := Lib.hid ⟨hc3, only_trans HM.out.only hg3, HM.out.row.kept hg3 (fun e => by injection e with e; omega), HM.out.res.grown hg3 (fun e => by injection e with e; omega), HM.out.box.grown hg3 (fun e => by injection e with e; omega)⟩
      have HRD := Lib.hid (fun W (hk : w3.grownBy W (some g2)) => rd_own3 (World.ownsRow.kept hown hk (.inr (fun e => by have := own_lt hown g2 e; omega))) (by omega))
      have HZS := Lib.hid hzs
      obtain ⟨A3, c3, rfl⟩ := own_form hown
      have HAG : Hid (∀ a, A3 = some a → a.block ≠ g2) := Lib.hid (fun a ha => by
        subst ha
        rcases hown.2 with ⟨hv, _⟩ | ⟨q, cap', cur', hv, hb, _⟩
        · cases hv
        · injection hv with hv1
          injection hv1 with hv1
          subst hv1
          show q ≠ g2
          omega)
      clear hc3 hg3 hown hzs HD cb hs3 hgr
      go_wp2_with fail
      go_loopw [6] (fun vi wq => ∃ i : Nat, vi = .int .i64 i ∧ i ≤ 64 ∧ i ≤ zs.length ∧ Hid (MakeAt w wq g g2 w2.heap.size w1.heap.size L cap) ∧ Hid (w3.grownBy wq (some g2))) (fun vi _ => 64 - (intOf vi).toNat)
      case atStart => exact ⟨0, rfl, by omega, by omega, HM3, Lib.hid (World.grownBy.refl _ _)⟩
      case round =>
        clear HM3
        obtain ⟨i, rfl, hi64, hiz, HQ, HG⟩ := hrel
        by_cases hq1 : i < zs.length
        · have i1 : (i : Int) < (zs.length : Int) := by omega
          by_cases hq2 : i < 64
          · have i2 : (i : Int) < 64 := by omega
            obtain ⟨a, hA0, hcy⟩ := rd_src (HRD.out _ HG.out) (by omega)
            subst hA0
            have hci := hcy i _ (by simp [hq1]; rfl)
            have hxl : zs[i] < 4294967296 := HZS.out _ (List.getElem_mem hq1)
            obtain ⟨x, hx⟩ : ∃ x, zs[i] = x := ⟨_, rfl⟩
            rw [hx] at hci hxl
            obtain ⟨p, hpp⟩ : ∃ p, b * 64 + i = p := ⟨_, rfl⟩
            have hpL : p < L := by omega
            obtain ⟨u0, hd⟩ := HQ.out.row.cell hpL
            have hf := HQ.out.row.frozen p
            have hrs := HQ.out.row.set (j := p) hxl
            have hon : wr.grownBy (wr.setCell ⟨g2, p, none⟩ (.int .u32 (x : Int))) (some g2) := only_setCell (World.grownBy.refl _ _) (.inl rfl) _
            have hm4 := HQ.out.kept hon hrs hgg hb2s hne1 hne2
            have HM4 : Hid (MakeAt w (wr.setCell ⟨g2, p, none⟩ (.int .u32 (x : Int))).drew g g2 w2.heap.size w1.heap.size L cap) := Lib.hid ⟨hm4.cur.grown (only_drew (World.grownBy.refl _ none)) (fun _ h => by cases h), only_drew hm4.only, hm4.row, hm4.res, hm4.box⟩
            have HG4 : Hid (w3.grownBy (wr.setCell ⟨g2, p, none⟩ (.int .u32 (x : Int))).drew (some g2)) := Lib.hid (only_drew (only_trans HG.out hon))
            have cb : wr.cell? ⟨w2.heap.size, 0, none⟩ = some (.slice (some ⟨g2, 0, none⟩) L cap) := HQ.out.box.cell 0
            have hci2 : wr.cell? (a.add i) = some (.int .u32 (x : Int)) := hci
            have cb2 : (wr.setCell ⟨g2, p, none⟩ (.int .u32 (x : Int))).drew.cell? ⟨w2.heap.size, 0, none⟩ = some (.slice (some ⟨g2, 0, none⟩) L cap) := hm4.box.cell 0
            have hag : a.block ≠ g2 := HAG.out a rfl
            have hci3 : (wr.setCell ⟨g2, p, none⟩ (.int .u32 (x : Int))).drew.cell? (a.add i) = some (.int .u32 (x : Int)) := (World.cell?_of_block (only_setCell (p := ⟨g2, p, none⟩) (World.grownBy.refl wr (some g2)) (.inl rfl) (.int .u32 (x : Int)) |>.block (a.add i).block (by rw [addr_addb]; exact lt_of_cell_d hci2) (fun e => by rw [addr_addb] at e; injection e with e; exact hag e))).trans hci2
            have e1 : IntKind.i64.wrap ((b : Int) * 64) = (b : Int) * 64 := by rw [IntKind.wrap_i64]; omega
            have e3 : (b : Int) * 64 + (i : Int) = (p : Int) := by omega
            have e4 : IntKind.i64.wrap (p : Int) = (p : Int) := by rw [IntKind.wrap_i64]; omega
            have j0 : (0 : Int) ≤ (p : Int) := by omega
            have j1 : (p : Int) < (L : Int) := by omega
            have i0' : (0 : Int) ≤ (i : Int) := by omega
            clear hcy hci hrs hon hm4 hpp hx hpL
            go_wp2_with fail
            go_region_held3 (fun w' => w'.cell? ⟨w2.heap.size, 0, none⟩ = some (.slice (some ⟨g2, 0, none⟩) L cap) ∧ w'.cell? (a.add i) = some (.int .u32 (x : Int))) (first | exact ⟨cb, hci2⟩ | exact ⟨cb2, hci3⟩) (fail)
            clear hci2 hci3 cb cb2 e1 e3 e4 hag
            go_wp2_with fail
            go_roundw
            case rel => exact ⟨i + 1, by go_num, by omega, by omega, HM4, HG4⟩
            case measure => simp [intOf]; omega
          · have i2 : ¬ (i : Int) < 64 := by omega
            go_wp2_with fail
            go_roundw
            case rel => exact ⟨b + 1, by go_num, by omega, HQ⟩
            case measure => simp [intOf]; omega
        · have i1 : ¬ (i : Int) < (zs.length : Int) := by omega
          go_wp2_with fail
          go_roundw
          case rel => exact ⟨b + 1, by go_num, by omega, HQ⟩
          case measure => simp [intOf]; omega
    · have c5 : wr.cell? ⟨w.heap.size, 0, none⟩ = some (.slice none 0 0) := HM.out.res.cell 0
      have f5 := HM.out.res.frozen 0
      clear HGL
      go_wp2_with fail
      have e0 : _ = some _ := (st_blk HM.out.res (.slice (some ⟨g2, 0, none⟩) L cap)).cell 0
      obtain ⟨ls, hl1, hl2, hl3⟩ := HM.out.row
      exact bodyPost_ret (v := stA (.slice (some ⟨g2, 0, none⟩) L cap)) (by simp [results, Try.results79, e0, go_sem]) rfl
        ⟨_, ls, rfl, by omega, hl2, by rw [hl1]; exact (own_put hl3 hlt1 _).mono (Nat.le_of_lt hlt1), HM.out.cur.grown (only_setCell (p := ⟨w.heap.size, 0, none⟩) (World.grownBy.refl wr (some w.heap.size)) (.inl rfl) _) (fun k hk => by injection hk with hk; omega), only_setCell HM.out.only (.inr (Nat.le_refl _)) _⟩
end Go.Proofs.Ytcddkcejjajlhaa
