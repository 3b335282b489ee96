/-
  Cells, stores are drawn.
-/
import Derived.Test.YtcddkcejjajlhaaDrawCut
import Derived.Test.YtcddkcejjajlhaaCellsLen
import Derived.Test.YtcddkcejjajlhaaBlockIn
import Derived.Laws.AppendOwnNone
namespace Go.Proofs.Ytcddkcejjajlhaa
open Go.RowKit Go

theorem own_cur {w w' : World} {g : Nat} {v : Value} {n : Nat} {xs : List Value} {base : Nat} {e : TypeId} (h : w.ownsRow base e 1 v n xs) (hg : g < base) (hk : w.grownBy w' (some g)) : w'.ownsRow base e 1 v n xs := h.kept hk (own_ne h hg)
/-- Cells are drawn: a new list, at most so many. -/
def DrewCells (g : Nat) (w : World) (e : Ending) (w' : World) : Prop := ∃ (v : Value) (ls : List Nat), e = .returned v ∧ ls.length ≤ 400 ∧ (∀ x ∈ ls, x < 4294967296) ∧ w'.ownsRow w.heap.size 43 1 v ls.length (ls.map u32v) ∧ CurAt w' g ∧ w.grownBy w' (some g)
/-- 'append(s, x...)', both lists the call's own, x nil or not. -/
theorem wpList_append_row {P : Program} {w : World} {ops : Array Oper} {rest : List Oper} {o : Oper} {a : Act} {Q : Exit → Act → World → Prop} (hgd : o.guard = none) (s x : Operand) (t : TypeId)
    (ho : o.op = .call { callee := .builtin .append, args := #[s, x], argTypes := #[t, t] })
    (base base2 : Nat) (e : TypeId) (i : TypeInfo) (z : Value) (bytes : Nat) (ht : P.underlying t = some (.slice e)) (hi : P.info? e = some i) (hz : i.zero = some z)
    (hsize : i.size = 1) (hby : i.bytes = bytes) (hzs : z.cells.size = 1)
    (v : Value) (n : Nat) (xs : List Value) (hs : a.eval s = v) (hown : w.ownsRow base e 1 v n xs)
    (u : Value) (m : Nat) (ys : List Value) (hx : a.eval x = u) (hown2 : w.ownsRow base2 e 1 u m ys) (h1 : ∀ u ∈ ys, u.oneCell' = true)
    (h63 : n + m ≤ maxLen) (hbytes : (n + m) * bytes ≤ 140737488355328) (hbase : base ≤ w.heap.size)
    (h : ∀ v' w', w'.ownsRow base e 1 v' (n + m) (xs ++ ys) → Hid (w.grownBy w' v.ownBlock) → wpList P ops Q rest (a.put o.dst v') w') : wpList P ops Q (o :: rest) a w := by
  rcases hown2.2 with ⟨hu, h0⟩ | ⟨g, cap, cur, hu, hb, hg, hn, hm, hsz, htk⟩
  · subst h0
    have hys : ys = [] := by have := hown2.1; exact List.eq_nil_of_length_eq_zero (by simpa using this)
    subst hys
    refine wpList_append_own_none hgd s x t ho base e i 1 ht hi v n xs hs hown (by rw [hx, hu]) (h v w (by simpa using hown) (World.grownBy.refl w _))
  · refine wpList_append_own w hgd s x t ho base e i z 1 bytes ht hi hz hsize hby hzs (by decide) v n xs hs hown ⟨g, 0, none⟩ m cap ys (by rw [hx, hu]) (by simpa using hown2.1) (World.ownsRow.cells hown2 (by rw [hu]; rfl)) h1 h63 hbytes hbase ?_
    intro v' w' h2 h3 _
    exact h v' w' h2 h3

theorem one_u32' (xs : List Nat) : ∀ u ∈ xs.map u32v, u.oneCell' = true := by
  intro u hu
  obtain ⟨_, _, rfl⟩ := List.mem_map.1 hu
  rfl
theorem small_app {a b : List Nat} (ha : ∀ x ∈ a, x < 4294967296) (hb : ∀ x ∈ b, x < 4294967296) : ∀ x ∈ a ++ b, x < 4294967296 := fun x hx => by
  rcases List.mem_append.1 hx with h | h
  · exact ha x h
  · exact hb x h
theorem small_one {y : Nat} (h : y < 4294967296) : ∀ x ∈ [y], x < 4294967296 := fun x hx => by rw [List.mem_singleton.1 hx]; exact h
/-- What is drawn so far. -/
def CellsAt (w : World) (g : Nat) (b : Nat) (v : Value) (wr : World) : Prop := ∃ ls : List Nat, ls.length ≤ b ∧ (∀ x ∈ ls, x < 4294967296) ∧ wr.ownsRow w.heap.size 43 1 v ls.length (ls.map u32v) ∧ CurAt wr g ∧ w.grownBy wr (some g)

set_option maxRecDepth 100000 in
set_option maxHeartbeats 8000000 in
theorem drawcells_any (g : Nat) (w : World) (hc : CurAt w g) : Calls Try.prog 65 #[.pointer (some ⟨g, 0, none⟩)] w (DrewCells g w) := by
  obtain ⟨i0, hinf, hz0, hz1, hz2⟩ := info_parts infoU32
  have hgl := cur_lt hc
  have HB0 := Lib.hid (below_any g 14 (by omega) (by omega) _ (hc.grown (World.grownBy_alloc w (.cells #[] 43) none) (fun _ h => by cases h)))
  have HGL := Lib.hid hgl
  clear hc hgl
  go_enter Try.func65, Try.ntmps65
  go_wp2_with fail
  refine HB0.out.mono ?_
  rintro e w1 ⟨y, rfl, ⟨hy0, hy1⟩, hc1, hg1⟩
  obtain ⟨n, rfl⟩ : ∃ n : Nat, y = n := ⟨y.toNat, by omega⟩
  have hn13 : n ≤ 13 := by have : (n : Int) ≤ 13 := by simpa using hy1
                           omega
  have HS : Hid (CellsAt w g (25 * 0) (.slice (some ⟨w.heap.size, 0, none⟩) 0 0) w1) := Lib.hid ⟨[], Nat.le_refl _, fun x h => absurd h List.not_mem_nil, own_cur (own_empty w 43) HGL.out hg1, hc1, only_trans (World.grownBy_alloc w _ _) hg1⟩
  clear hy0 hy1 hc1 hg1 HB0
  go_wp2_with fail
  go_loopw [3, 5] (fun vo vi wr => ∃ i : Nat, vi = .int .i64 i ∧ i ≤ n ∧ Hid (CellsAt w g (25 * i) vo wr)) (fun _ vi _ => n - (intOf vi).toNat)
  case atStart => exact ⟨0, rfl, by omega, HS⟩
  case round =>
    clear HS
    obtain ⟨i, rfl, hi, HR⟩ := hrel
    by_cases hp : i < n
    · have i2 : (i : Int) < (n : Int) := by omega
      obtain ⟨ls, hl, hsm, hown, hcr, hgr⟩ := HR.out
      have HD := Lib.hid (drawsome_any g wr hcr)
      have HO := Lib.hid hown
      have HG := Lib.hid hgr
      have HSM := Lib.hid hsm
      clear hown hcr hgr hsm HR
      go_wp2_with fail
      refine HD.out.mono ?_
      rintro e w2 ⟨it, rfl, hin, hsz, hc2, hg2⟩
      have HSC := Lib.hid (spec_cellsof it hin w2)
      have hcl := cellsOf_len it
      have ho2 := own_cur HO.out HGL.out hg2
      have HG2 := Lib.hid (only_trans HG.out hg2)
      have HO2 := Lib.hid ho2
      have HC2 := Lib.hid hc2
      obtain ⟨k, nm, nn, x, r⟩ := it
      clear hin hsz hc2 hg2 ho2 HD HO HG
      go_wp2_with fail
      refine HSC.out.mono ?_
      rintro e w3 ⟨u, zs, rfl, hzl, hzs, hown3, hb3⟩
      have ho3 := own_below HO2.out hb3 (Nat.le_refl _)
      have HZ := Lib.hid hown3
      have HC3 := Lib.hid (HC2.out.below hb3)
      have HB3 := Lib.hid hb3
      have hz24 : zs.length ≤ 24 := by omega
      have HZS := Lib.hid hzs
      have hsz3 : w.heap.size ≤ w3.heap.size := Nat.le_trans HG2.out.size hb3.size
      clear hown3 hb3 hzs HSC HO2 HC2 hcl hzl
      go_wp2_with (at_builtin; refine wpList_append_row rfl _ _ 24 rfl w.heap.size w2.heap.size 43 i0 (.int .u32 0) 4 Try.underlying24 hinf hz0 hz1 hz2 rfl _ ls.length _ rfl ho3 _ zs.length _ rfl HZ.out (one_u32' zs) (by unfold maxLen; omega) (by omega) hsz3 ?_; intro v1 w4 hown4 HGR4)
      have hown4' : w4.ownsRow w.heap.size 43 1 v1 (ls ++ zs).length ((ls ++ zs).map u32v) := by rw [List.length_append, List.map_append]; exact hown4
      have HO4 := Lib.hid hown4'
      have HC4 := Lib.hid (HC3.out.grown HGR4.out (fun k hk => by have := own_lt ho3 k hk; have := HGL.out; omega))
      have HG4 := Lib.hid (only_app (only_trans HG2.out (only_of_below HB3.out _)) HGR4.out (own_lt ho3))
      have hlz : (ls ++ zs).length ≤ 25 * i + 24 := by rw [List.length_append]; omega
      have HSM2 := Lib.hid (small_app HSM.out HZS.out)
      have HB9 := Lib.hid (below_any g 9 (by omega) (by omega) w4 HC4.out)
      clear hown4 hown4' HGR4 ho3 HC3 HB3 HG2 HSM HZS HZ HC4
      refine HB9.out.mono ?_
      rintro e w5 ⟨y, rfl, ⟨hy0, hy1⟩, hc5, hg5⟩
      have HO5 := Lib.hid (own_cur HO4.out HGL.out hg5)
      have HG5 := Lib.hid (only_trans HG4.out hg5)
      have HC5 := Lib.hid hc5
      have hs5 : w.heap.size ≤ w5.heap.size := HG5.out.size
      have hy2 : y ≤ 8 := by simpa using hy1
      have hll : (ls ++ zs).length = ls.length + zs.length := List.length_append
      clear hc5 hg5 HB9 HO4 HG4 hy1
      by_cases h0 : y = 0
      · have b0 : (y == 0) = true := by simpa using h0
        have HW := Lib.hid (word_any g w5 HC5.out)
        clear h0 hy0 hy2
        go_wp2_with fail
        refine HW.out.mono ?_
        rintro e w6 ⟨z, rfl, hz, hc6, hg6⟩
        have HO6 := Lib.hid (own_cur HO5.out HGL.out hg6)
        have HG6 := Lib.hid (only_trans HG5.out hg6)
        have HC6 := Lib.hid hc6
        have HZL := Lib.hid hz
        clear hc6 hg6 HW hz HO5 HG5 HC5
        go_wp2_with (at_builtin; refine wpList_append_own _ rfl _ _ 24 rfl w.heap.size 43 i0 (.int .u32 0) 1 4 Try.underlying24 hinf hz0 hz1 hz2 rfl (by decide) _ _ _ rfl (HO6.out.alloc _) ⟨w6.heap.size, 0, none⟩ 1 1 [.int .u32 (z : Int)] rfl rfl (cell_one_new _ _ _) (by simp [Value.oneCell']) (by unfold maxLen; omega) (by omega) (by have := HG6.out.size; simp; omega) ?_; intro v2 w9 hown9 hgr9 hif; clear hif)
        have HR9 : Hid (CellsAt w g (25 * (i + 1)) v2 w9) := Lib.hid ⟨ls ++ zs ++ [z], by rw [List.length_append, List.length_append]; simp; omega, small_app HSM2.out (small_one HZL.out), by rw [List.length_append (bs := [z]), List.map_append (l₂ := [z])]; exact hown9, (HC6.out.grown (World.grownBy_alloc w6 _ none) (fun _ h => by cases h)).grown hgr9 (fun k hk => by have := own_lt HO6.out k hk; have := HGL.out; omega), only_app (only_alloc HG6.out _) hgr9 (own_lt HO6.out)⟩
        clear hown9 hgr9
        go_roundw
        case rel => exact ⟨i + 1, by go_num, by omega, HR9⟩
        case measure => simp [intOf]; omega
      have b0 : (y == 0) = false := by simpa using h0
      by_cases h1 : y = 1
      · have b1 : (y == 1) = true := by simpa using h1
        clear h0 h1 hy0 hy2
        go_wp2_with (at_builtin; refine wpList_append_own _ rfl _ _ 24 rfl w.heap.size 43 i0 (.int .u32 0) 1 4 Try.underlying24 hinf hz0 hz1 hz2 rfl (by decide) _ _ _ rfl (HO5.out.alloc _) ⟨w5.heap.size, 0, none⟩ 1 1 [.int .u32 (0)] rfl rfl (cell_one_new _ _ _) (by simp [Value.oneCell']) (by unfold maxLen; omega) (by omega) (by have := HG5.out.size; simp; omega) ?_; intro v2 w9 hown9 hgr9 hif; clear hif)
        have HR9 : Hid (CellsAt w g (25 * (i + 1)) v2 w9) := Lib.hid ⟨ls ++ zs ++ [0], by rw [List.length_append, List.length_append]; simp; omega, small_app HSM2.out (small_one (by omega)), by rw [List.length_append (bs := [0]), List.map_append (l₂ := [0])]; exact hown9, (HC5.out.grown (World.grownBy_alloc w5 _ none) (fun _ h => by cases h)).grown hgr9 (fun k hk => by have := own_lt HO5.out k hk; have := HGL.out; omega), only_app (only_alloc HG5.out _) hgr9 (own_lt HO5.out)⟩
        clear hown9 hgr9
        go_roundw
        case rel => exact ⟨i + 1, by go_num, by omega, HR9⟩
        case measure => simp [intOf]; omega
      have b1 : (y == 1) = false := by simpa using h1
      by_cases h2 : y = 2
      · have b2 : (y == 2) = true := by simpa using h2
        have HW := Lib.hid (below_any g 4096 (by omega) (by omega) w5 HC5.out)
        clear h0 h1 h2 hy0 hy2
        go_wp2_with fail
        refine HW.out.mono ?_
        rintro e w6 ⟨z, rfl, ⟨hz0', hz1'⟩, hc6, hg6⟩
        have hz2' : z ≤ 4095 := by simpa using hz1'
        obtain ⟨m, rfl⟩ : ∃ m : Nat, z = m := ⟨z.toNat, by omega⟩
        have HO6 := Lib.hid (own_cur HO5.out HGL.out hg6)
        have HG6 := Lib.hid (only_trans HG5.out hg6)
        have HC6 := Lib.hid hc6
        clear hc6 hg6 HW hz1' HO5 HG5 HC5
        go_wp2_with (at_builtin; refine wpList_append_own _ rfl _ _ 24 rfl w.heap.size 43 i0 (.int .u32 0) 1 4 Try.underlying24 hinf hz0 hz1 hz2 rfl (by decide) _ _ _ rfl (HO6.out.alloc _) ⟨w6.heap.size, 0, none⟩ 1 1 [.int .u32 ((m : Int) * 16)] rfl rfl (cell_one_new _ _ _) (by simp [Value.oneCell']) (by unfold maxLen; omega) (by omega) (by have := HG6.out.size; simp; omega) ?_; intro v2 w9 hown9 hgr9 hif; clear hif)
        have HR9 : Hid (CellsAt w g (25 * (i + 1)) v2 w9) := Lib.hid ⟨ls ++ zs ++ [m * 16], by rw [List.length_append, List.length_append]; simp; omega, small_app HSM2.out (small_one (by omega)), by rw [List.length_append (bs := [m * 16]), List.map_append (l₂ := [m * 16])]; exact hown9, (HC6.out.grown (World.grownBy_alloc w6 _ none) (fun _ h => by cases h)).grown hgr9 (fun k hk => by have := own_lt HO6.out k hk; have := HGL.out; omega), only_app (only_alloc HG6.out _) hgr9 (own_lt HO6.out)⟩
        clear hown9 hgr9
        go_roundw
        case rel => exact ⟨i + 1, by go_num, by omega, HR9⟩
        case measure => simp [intOf]; omega
      have b2 : (y == 2) = false := by simpa using h2
      by_cases h3 : y = 3
      · have b3 : (y == 3) = true := by simpa using h3
        have hg5 : g < w5.heap.size := by have := HGL.out; omega
        have HP := Lib.hid (pickint_any g w5.heap.size [2, 18, 5, 34, 12] _ (HC5.out.grown (World.grownBy_alloc w5 _ none) (fun _ h => by cases h)) (ints_new w5 3 [2, 18, 5, 34, 12]) (by omega) (by simp) (by decide) (by decide))
        clear h0 h1 h2 h3 hy0 hy2 hg5
        go_wp2_with fail
        refine HP.out.mono ?_
        rintro e w6 ⟨z, rfl, hz, hc6, hg6⟩
        obtain ⟨m, rfl, hm⟩ : ∃ m : Nat, z = m ∧ m ≤ 34 := by
          have hz : z = 2 ∨ z = 18 ∨ z = 5 ∨ z = 34 ∨ z = 12 := by simpa using hz
          exact ⟨z.toNat, by omega, by omega⟩
        have HO6 := Lib.hid (own_cur (HO5.out.alloc (.cells _ 3)) HGL.out hg6)
        have HG6 := Lib.hid (only_trans (only_alloc HG5.out _) hg6)
        have HC6 := Lib.hid hc6
        clear hc6 hg6 HP hz HO5 HG5 HC5
        go_wp2_with (at_builtin; refine wpList_append_own _ rfl _ _ 24 rfl w.heap.size 43 i0 (.int .u32 0) 1 4 Try.underlying24 hinf hz0 hz1 hz2 rfl (by decide) _ _ _ rfl (HO6.out.alloc _) ⟨w6.heap.size, 0, none⟩ 1 1 [.int .u32 (m : Int)] rfl rfl (cell_one_new _ _ _) (by simp [Value.oneCell']) (by unfold maxLen; omega) (by omega) (by have := HG6.out.size; simp; omega) ?_; intro v2 w9 hown9 hgr9 hif; clear hif)
        have HR9 : Hid (CellsAt w g (25 * (i + 1)) v2 w9) := Lib.hid ⟨ls ++ zs ++ [m], by rw [List.length_append, List.length_append]; simp; omega, small_app HSM2.out (small_one (by omega)), by rw [List.length_append (bs := [m]), List.map_append (l₂ := [m])]; exact hown9, (HC6.out.grown (World.grownBy_alloc w6 _ none) (fun _ h => by cases h)).grown hgr9 (fun k hk => by have := own_lt HO6.out k hk; have := HGL.out; omega), only_app (only_alloc HG6.out _) hgr9 (own_lt HO6.out)⟩
        clear hown9 hgr9
        go_roundw
        case rel => exact ⟨i + 1, by go_num, by omega, HR9⟩
        case measure => simp [intOf]; omega
      have b3 : (y == 3) = false := by simpa using h3
      have HR9 : Hid (CellsAt w g (25 * (i + 1)) v1 w5) := Lib.hid ⟨ls ++ zs, by omega, HSM2.out, HO5.out, HC5.out, HG5.out⟩
      clear h0 h1 h2 h3 hy0 hy2 HO5 HG5 HC5
      go_wp2_with fail
      go_roundw
      case rel => exact ⟨i + 1, by go_num, by omega, HR9⟩
      case measure => simp [intOf]; omega
    · obtain rfl : i = n := by omega
      obtain ⟨ls, hl, hsm, hown, hcr, hgr⟩ := HR.out
      by_cases h64 : 64 < ls.length
      · have j64 : (64 : Int) < (ls.length : Int) := by omega
        have HON := Lib.hid (once_any g 6 (by decide) wr hcr)
        obtain ⟨g2, cap, cur, rfl, hrow⟩ := own_row hown (by omega)
        have hcp := hrow.le
        have jc : (64 : Int) ≤ (cap : Int) := by omega
        have HO := Lib.hid hown
        have HG := Lib.hid hgr
        have HSM := Lib.hid hsm
        clear hown hcr hgr hsm HR hrow
        go_wp2_with fail
        refine HON.out.mono ?_
        rintro e w2 ⟨b, rfl, hc2, hg2⟩
        have HO2 := Lib.hid (own_cur HO.out HGL.out hg2)
        have HC2 := Lib.hid hc2
        have HG2 := Lib.hid (only_trans HG.out hg2)
        clear hc2 hg2 HON HO HG
        cases b with
        | true =>
          go_wp2_with fail
          go_ret
          exact ⟨_, ls, rfl, by omega, HSM.out, HO2.out, HC2.out, HG2.out⟩
        | false =>
          go_wp2_with fail
          go_ret
          have hl64 : (ls.take 64).length = 64 := by rw [List.length_take]; omega
          obtain ⟨g3, cap3, cur3, hv, hrow⟩ := own_row HO2.out (by omega)
          injection hv with hv1 hv2 hv3
          injection hv1 with hv1
          injection hv1 with hv1
          subst hv1 hv3
          refine ⟨.slice (some ⟨g2, 0, none⟩) 64 cap, ls.take 64, rfl, by omega, fun x hx => HSM.out x (List.mem_of_mem_take hx), ?_, HC2.out, HG2.out⟩
          rw [hl64]
          exact RowIs.own ⟨hrow.base, hrow.row, by omega, hrow.max, hrow.len, by rw [List.map_take, ← hrow.take, List.take_take]; congr 1; omega⟩ (by rw [List.length_map]; exact hl64)
      · have j64 : (ls.length : Int) ≤ 64 := by omega
        obtain ⟨A, c, rfl⟩ := own_form hown
        have HO := Lib.hid hown
        have HG := Lib.hid hgr
        have HSM := Lib.hid hsm
        have HC := Lib.hid hcr
        clear hown hcr hgr hsm HR
        go_wp2_with fail
        go_ret
        exact ⟨_, ls, rfl, by omega, HSM.out, HO.out, HC.out, HG.out⟩
end Go.Proofs.Ytcddkcejjajlhaa
