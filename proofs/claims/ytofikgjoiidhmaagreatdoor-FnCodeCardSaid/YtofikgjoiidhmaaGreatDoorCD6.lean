/-
  Definitions are drawn.
-/
import Derived.Test.YtofikgjoiidhmaaGreatDoorCD5
namespace Go.Proofs.YtofikgjoiidhmaaGreatDoor
open Go.RowKit Go

theorem infoDf : (Tryz.prog.info? 60).map (fun i => (i.zero, i.size, i.bytes)) = some (some (.agg #[.string ⟨#[]⟩, .slice none 0 0]), 2, 40) := by kernel_rfl
theorem types_ne {w : World} {b1 b2 s1 s2 n1 n2 : Nat} {e1 e2 : TypeId} {u v : Value} {xs ys : List Value} (h1 : w.ownsRow b1 e1 s1 u n1 xs) (h2 : w.ownsRow b2 e2 s2 v n2 ys) (he : e1 ≠ e2) : ∀ g, u.ownBlock = some g → v.ownBlock ≠ some g := by
  intro g hg hv
  rcases h1.2 with ⟨rfl, -⟩ | ⟨q, cap, cur, rfl, -, hq, -⟩
  · simp [Value.ownBlock] at hg
  · have hg : some q = some g := hg
    injection hg with hg
    subst hg
    rcases h2.2 with ⟨rfl, -⟩ | ⟨r, cap2, cur2, rfl, -, hr, -⟩
    · simp [Value.ownBlock] at hv
    · have hv : some r = some q := hv
      injection hv with hv
      subst hv
      rw [hq] at hr
      injection hr with h1
      injection h1 with _ h2
      exact he h2
/-- Definitions that are drawn so far. -/
structure DefsAt (g : Nat) (w : World) (v : Value) (ds : List Df) (wr : World) : Prop where
  ex : ∃ ps : List (ByteArray × Value), ps.length = ds.length ∧ wr.ownsRow w.heap.size 60 2 v ds.length (dfv ps) ∧ ∀ i (h : i < ds.length) (h2 : i < ps.length), ps[i].1 = ds[i].1 ∧ wr.ownsRow w.heap.size 70 2 ps[i].2 ds[i].2.length (slv ds[i].2)
  sm : ∀ d ∈ ds, d.1.size ≤ 10 ∧ d.2.length ≤ 700 ∧ RngO d.2
  cur : CurAt wr g
  only : w.grownBy wr (some g)
  glt : g < w.heap.size
section
variable {g : Nat} {w wr w2 : World} {v : Value} {ds : List Df}
theorem DefsAt.drawn (h : DefsAt g w v ds wr) (hc : CurAt w2 g) (hg : wr.grownBy w2 (some g)) : DefsAt g w v ds w2 := by
  have key : ∀ {e : TypeId} {size n : Nat} {u : Value} {xs : List Value}, wr.ownsRow w.heap.size e size u n xs → w2.ownsRow w.heap.size e size u n xs := fun ho => row_same ho (fun k hk => hg.block k (World.ownsRow.lt ho k hk).2 (fun e => by injection e with e; have := (World.ownsRow.lt ho k hk).1; have := h.glt; omega))
  obtain ⟨ps, h1, h2, h3⟩ := h.ex
  exact ⟨⟨ps, h1, key h2, fun i hi hi2 => ⟨(h3 i hi hi2).1, key (h3 i hi hi2).2⟩⟩, h.sm, hc, only_trans h.only hg, h.glt⟩
theorem DefsAt.alloc (h : DefsAt g w v ds wr) (o : Obj) : DefsAt g w v ds (wr.alloc o) := h.drawn (h.cur.grown (World.grownBy_alloc wr o none) (fun _ e => by cases e)) (only_alloc (World.grownBy.refl wr (some g)) o)
/-- One more definition. -/
theorem DefsAt.push {w3 : World} {u v9 : Value} {nm : ByteArray} {xs : List (Int × Int)} {ps : List (ByteArray × Value)} (h : DefsAt g w v ds wr) (hps : ps.length = ds.length) (hrow : wr.ownsRow w.heap.size 60 2 v ds.length (dfv ps)) (hbod : ∀ i (h : i < ds.length) (h2 : i < ps.length), ps[i].1 = ds[i].1 ∧ wr.ownsRow w.heap.size 70 2 ps[i].2 ds[i].2.length (slv ds[i].2))
    (hu : wr.ownsRow w.heap.size 70 2 u xs.length (slv xs)) (hx : xs.length ≤ 700 ∧ RngO xs) (hn : nm.size ≤ 10)
    (hr : w3.ownsRow w.heap.size 60 2 v9 (ds.length + 1) (dfv ps ++ [.string nm, u])) (ha : AppAlt wr w3 v v9 ds.length 1) : DefsAt g w v9 (ds ++ [(nm, xs)]) w3 := by
  have hgr := ha.grown
  have hlo : ∀ k, v.ownBlock = some k → w.heap.size ≤ k := fun k hk => (World.ownsRow.lt hrow k hk).1
  have key : ∀ {n : Nat} {u : Value} {ys : List Value}, wr.ownsRow w.heap.size 70 2 u n ys → w3.ownsRow w.heap.size 70 2 u n ys := fun ho => row_same ho (fun k hk => hgr.block k (World.ownsRow.lt ho k hk).2 (fun e => types_ne hrow ho (by decide) k e.symm hk))
  refine ⟨⟨ps ++ [(nm, u)], by simp [hps], ?_, fun i hi hi2 => ?_⟩, fun d hd => ?_, h.cur.grown hgr (fun k hk => by have := hlo k hk; have := h.glt; omega), only_app h.only hgr hlo, h.glt⟩
  · rw [List.length_append, dfv_app]
    exact hr
  · by_cases hl : i < ds.length
    · have hl2 : i < ps.length := by omega
      simp only [List.getElem_append_left hl, List.getElem_append_left hl2]
      exact ⟨(hbod i hl hl2).1, key (hbod i hl hl2).2⟩
    · have e1 : i = ds.length := by simp at hi; omega
      subst e1
      simp only [List.getElem_append_right (Nat.le_refl _), Nat.sub_self, List.getElem_cons_zero]
      have e2 : (ps ++ [(nm, u)])[ds.length] = (nm, u) := by
        rw [List.getElem_append_right (by omega)]
        simp [hps]
      rw [e2]
      exact ⟨rfl, key hu⟩
  · rcases List.mem_append.1 hd with h1 | h1
    · exact h.sm d h1
    · rw [List.mem_singleton.1 h1]
      exact ⟨hn, hx⟩
end
theorem src_def (w : World) (a b : Value) : SrcAt (w.alloc (.cells #[a, b] 60)) 2 (.slice (some ⟨w.heap.size, 0, none⟩) 1 1) 1 [a, b] := by
  refine ⟨_, _, rfl, rfl, fun h => by simp at h, fun q hq j x hj => ?_⟩
  obtain rfl : q = ⟨w.heap.size, 0, none⟩ := by injection hq with hq; exact hq.symm
  rw [addr_lit, cell_of_row _ w.heap.size (0 + j) #[a, b] 60 (0, 0) (heap_alloc_new w _), Nat.zero_add]
  simpa using hj
def DrewDefs (g : Nat) (w : World) (e : Ending) (w' : World) : Prop := ∃ v ds, e = .returned v ∧ DefsAt g w v ds w' ∧ 1 ≤ ds.length ∧ ds.length ≤ 4
abbrev dNames : List ByteArray := [⟨#[103, 111]⟩, ⟨#[120]⟩, ⟨#[115, 113, 117, 97, 114, 101]⟩, ⟨#[97, 33, 97]⟩, ⟨#[116, 101, 110]⟩]
theorem dNames_size : ∀ x ∈ dNames, x.size ≤ 10 := by
  intro x hx
  simp only [List.mem_cons, List.not_mem_nil, or_false] at hx
  rcases hx with rfl | rfl | rfl | rfl | rfl <;> decide
set_option maxRecDepth 100000 in
set_option maxHeartbeats 32000000 in
theorem make_any (g : Nat) (w : World) (hc : CurAt w g) : Calls Tryz.prog 28 #[.pointer (some ⟨g, 0, none⟩)] w (DrewDefs g w) := by
  obtain ⟨i0, hi0, hz0, hz1, hz2⟩ := info_parts infoS
  obtain ⟨j0, hj0, jz0, jz1, jz2⟩ := info_parts infoDf
  have hgl := cur_lt hc
  have HN := Lib.hid (below_any g 4 (by omega) (by omega) w hc)
  clear hc
  go_enter Tryz.func28, Tryz.ntmps28
  go_wp2_with fail
  refine HN.out.mono ?_
  rintro e w1 ⟨x, rfl, ⟨hx0, hx1⟩, hc1, hg1⟩
  have hx2 : x ≤ 3 := by simpa using hx1
  have wx : IntKind.i64.wrap (1 + x) = 1 + x := IntWalk.i64_in _ (by omega)
  obtain ⟨n, hn⟩ : ∃ n : Int, 1 + x = n := ⟨_, rfl⟩
  rw [hn] at wx
  have hn1 : 1 ≤ n := by omega
  have hn4 : n ≤ 4 := by omega
  have D1 := Lib.hid (show DefsAt g w (.slice (some ⟨w1.heap.size, 0, none⟩) 0 0) [] (w1.alloc (.cells #[] 60)) from ⟨⟨[], rfl, ⟨rfl, .inr ⟨w1.heap.size, 0, #[], rfl, hg1.size, heap_alloc_new w1 _, Nat.le_refl _, Nat.zero_le _, rfl, rfl⟩⟩, fun i h => absurd h (by simp)⟩, fun d hd => by simp at hd, hc1.grown (World.grownBy_alloc w1 _ none) (fun _ h => by cases h), only_alloc hg1 _, hgl⟩)
  clear hx1 hc1 hg1 HN
  go_wp2_with fail
  clear hn hx0 hx2
  go_loopw [4, 5] (fun vo vi wr => ∃ (i : Nat) (u : Value) (ds : List Df), vi = .int .i64 i ∧ vo = u ∧ (i : Int) ≤ n ∧ ds.length = i ∧ Hid (DefsAt g w u ds wr)) (fun _ vi _ => n.toNat - (intOf vi).toNat)
  case atStart => exact ⟨0, _, [], rfl, rfl, by omega, rfl, D1⟩
  case round =>
    obtain ⟨i, u, ds, rfl, rfl, hi, hdl, DR⟩ := hrel
    clear D1
    obtain ⟨F, fc, rfl⟩ := own_formS DR.out.ex.choose_spec.2.1
    subst hdl
    by_cases hp : (ds.length : Int) < n
    · have HO := Lib.hid (once_any g 4 (by omega) _ DR.out.cur)
      go_wp2_with fail
      refine HO.out.mono ?_
      rintro e w3 ⟨b, rfl, hc3, hg3⟩
      have D3 := Lib.hid (DR.out.drawn hc3 hg3)
      clear hc3 hg3 HO DR
      cases b with
      | false =>
        have HB := Lib.hid (body_any 2 (by omega) g (ds.length : Int) (by omega) (by omega) w3 D3.out.cur)
        go_wp2_with fail
        refine HB.out.mono ?_
        rintro e w4 ⟨v4, xs, rfl, h4⟩
        obtain ⟨X4, xc4, rfl⟩ := own_formS h4.row
        have B4 := Lib.hid h4
        clear h4 HB
        by_cases hbig : (50 : Int) < (xs.length : Int)
        · obtain ⟨we, hwe⟩ : ∃ W, W = w4.alloc (.cells #[] 70) := ⟨_, rfl⟩
          obtain ⟨ue, hue⟩ : ∃ u, u = Value.slice (some ⟨w4.heap.size, 0, none⟩) 0 0 := ⟨_, rfl⟩
          obtain ⟨ye, hye⟩ : ∃ ye : List (Int × Int), ye = [] := ⟨_, rfl⟩
          have BE : Hid (BodyAt g w3 50 ue ye we) := Lib.hid (by rw [hwe, hue, hye]; exact ⟨by simp, fun o ho => by simp at ho, (own_emptyO w4).mono B4.out.only.size, (B4.out.alloc _).cur, (B4.out.alloc _).only, B4.out.glt⟩)
          have HWE := Lib.hid hwe
          have HUE := Lib.hid hue
          clear B4 hwe hye hue
          go_upto_region 12 with (fail)
          rw [← HWE.out, ← HUE.out]
          clear HWE HUE
          obtain ⟨EE, eec, rfl⟩ := own_formS BE.out.row
          have HS := Lib.hid (below_any g 6 (by omega) (by omega) we BE.out.cur)
          go_wp2_with fail
          refine HS.out.mono ?_
          rintro e w5 ⟨s, rfl, ⟨hs0, hs1⟩, hc5, hg5⟩
          have hs2 : s ≤ 5 := by simpa using hs1
          have B5 := Lib.hid (BE.out.drawn hc5 hg5)
          clear hc5 hg5 HS BE hs1
          by_cases h0 : s = 0
          · subst h0
            have B6 := Lib.hid (B5.out.more (C := 52) (by omega))
            clear B5
            have D7 := Lib.hid ((D3.out.drawn B6.out.cur B6.out.only).alloc (.cells (dNames.map Value.string).toArray 9))
            have PK := Lib.hid (pick_any g w5.heap.size dNames (w5.alloc (.cells (dNames.map Value.string).toArray 9)) D7.out.cur (strs_new w5 9 dNames) (by have := D7.out.only.size; have := D7.out.glt; have := B6.out.only.size; have := B6.out.glt; have := D3.out.only.size; omega) (by simp) (by decide) (by decide))
            have B7 := Lib.hid (B6.out.alloc (.cells (dNames.map Value.string).toArray 9))
            clear B6
            go_wp2_with fail
            refine PK.out.mono ?_
            rintro e w8 ⟨nm, rfl, hnm, hc8, hg8⟩
            have HNM := Lib.hid (dNames_size nm hnm)
            have D8 := Lib.hid ((D7.out.drawn hc8 hg8).alloc (.cells #[.string nm, (.slice EE ye.length eec)] 60))
            have B8 := Lib.hid ((B7.out.drawn hc8 hg8).alloc (.cells #[.string nm, (.slice EE ye.length eec)] 60))
            have SRD := Lib.hid (src_def w8 (.string nm) (.slice EE ye.length eec))
            obtain ⟨ps, hps, hrow, hbod⟩ := D8.out.ex
            have HROW := Lib.hid hrow
            have HBOD := Lib.hid hbod
            have HPS := Lib.hid hps
            have hlo3 : w.heap.size ≤ w3.heap.size := D3.out.only.size
            clear hnm hc8 hg8 PK D7 B7 hps hrow hbod
            go_wp2_with (at_builtin; refine wpList_append_src rfl _ _ 24 rfl w.heap.size 60 j0 (.agg #[.string ⟨#[]⟩, .slice none 0 0]) 2 40 Tryz.underlying24 hj0 jz0 jz1 jz2 rfl (by decide) _ ds.length _ rfl (HROW.out) _ 1 [.string nm, (.slice EE ye.length eec)] rfl SRD.out (by simp [Value.oneCell']) (by unfold maxLen; omega) (by omega) (by have := D8.out.only.size; omega) ?_; intro v9 w9 ho9 ha9; refine unstop ?_)
            refine Stop.go ?_
            have D9 := Lib.hid (D8.out.push HPS.out HROW.out HBOD.out (B8.out.row.mono hlo3) ⟨by have := B8.out.len; omega, B8.out.rng⟩ HNM.out ho9 ha9.out)
            clear ho9 ha9 SRD D8 B8 HROW HBOD HPS D3
            go_wp2_with fail
            go_roundw
            case rel => exact ⟨ds.length + 1, v9, _, by go_num, rfl, by omega, by rw [List.length_append, List.length_singleton], D9⟩
            case measure => simp [intOf]; omega
          by_cases h1 : s = 1
          · subst h1
            clear h0
            by_cases hc0 : 0 < (ds.length : Int)
            · have HK := Lib.hid (below_any g (ds.length : Int) (by omega) (by omega) w5 B5.out.cur)
              go_wp2_with fail
              refine HK.out.mono ?_
              rintro e w6 ⟨y, rfl, ⟨hy0, hy1⟩, hc6, hg6⟩
              rw [if_neg (by omega)] at hy1
              have wy : IntKind.i32.wrap y = y := IntWalk.i32_in _ (by omega)
              have B6 := Lib.hid (B5.out.drawn hc6 hg6)
              clear hc6 hg6 HK B5
              have B6A := Lib.hid (B6.out.alloc (.cells #[.int .i64 2, .int .i32 y] 70))
              have SRC := Lib.hid (src_two w6 (.int .i64 2) (.int .i32 y))
              go_wp2_with (at_builtin; refine wpList_append_src rfl _ _ 57 rfl w3.heap.size 70 i0 (.agg #[.int .i64 0, .int .i32 0]) 2 16 Tryz.underlying57 hi0 hz0 hz1 hz2 rfl (by decide) _ ye.length _ rfl (B6A.out.row) _ 1 [.int .i64 2, .int .i32 y] rfl SRC.out (by simp [Value.oneCell']) (by have := B6A.out.len; unfold maxLen; omega) (by have := B6A.out.len; omega) (by have := B6A.out.only.size; omega) ?_; intro v61 w61 ho61 ha61; refine unstop ?_)
              refine Stop.go ?_
              have B61 := Lib.hid (B6A.out.app (ys := [(2, y)]) ho61 ha61.out rfl (rng_one (by omega)) (C := 51) (by omega))
              obtain ⟨x61, hx61⟩ : ∃ z, ye ++ [(2, y)] = z := ⟨_, rfl⟩
              rw [hx61] at B61
              obtain ⟨E61, ec61, rfl⟩ := own_formS B61.out.row
              clear ho61 ha61 hx61 SRC B6 B6A
              have B61A := Lib.hid (B61.out.alloc (.cells #[.int .i64 8, .int .i32 0] 70))
              have SRC := Lib.hid (src_two w61 (.int .i64 8) (.int .i32 0))
              go_wp2_with (at_builtin; refine wpList_append_src rfl _ _ 57 rfl w3.heap.size 70 i0 (.agg #[.int .i64 0, .int .i32 0]) 2 16 Tryz.underlying57 hi0 hz0 hz1 hz2 rfl (by decide) _ x61.length _ rfl (B61A.out.row) _ 1 [.int .i64 8, .int .i32 0] rfl SRC.out (by simp [Value.oneCell']) (by have := B61A.out.len; unfold maxLen; omega) (by have := B61A.out.len; omega) (by have := B61A.out.only.size; omega) ?_; intro v62 w62 ho62 ha62; refine unstop ?_)
              refine Stop.go ?_
              have B62 := Lib.hid (B61A.out.app (ys := [(8, 0)]) ho62 ha62.out rfl (rng_one (by omega)) (C := 52) (by omega))
              obtain ⟨x62, hx62⟩ : ∃ z, x61 ++ [(8, 0)] = z := ⟨_, rfl⟩
              rw [hx62] at B62
              obtain ⟨E62, ec62, rfl⟩ := own_formS B62.out.row
              clear ho62 ha62 hx62 SRC B61 B61A
              have D7 := Lib.hid ((D3.out.drawn B62.out.cur B62.out.only).alloc (.cells (dNames.map Value.string).toArray 9))
              have PK := Lib.hid (pick_any g w62.heap.size dNames (w62.alloc (.cells (dNames.map Value.string).toArray 9)) D7.out.cur (strs_new w62 9 dNames) (by have := D7.out.only.size; have := D7.out.glt; have := B62.out.only.size; have := B62.out.glt; have := D3.out.only.size; omega) (by simp) (by decide) (by decide))
              have B7 := Lib.hid (B62.out.alloc (.cells (dNames.map Value.string).toArray 9))
              clear B62
              go_wp2_with fail
              refine PK.out.mono ?_
              rintro e w8 ⟨nm, rfl, hnm, hc8, hg8⟩
              have HNM := Lib.hid (dNames_size nm hnm)
              have D8 := Lib.hid ((D7.out.drawn hc8 hg8).alloc (.cells #[.string nm, (.slice E62 x62.length ec62)] 60))
              have B8 := Lib.hid ((B7.out.drawn hc8 hg8).alloc (.cells #[.string nm, (.slice E62 x62.length ec62)] 60))
              have SRD := Lib.hid (src_def w8 (.string nm) (.slice E62 x62.length ec62))
              obtain ⟨ps, hps, hrow, hbod⟩ := D8.out.ex
              have HROW := Lib.hid hrow
              have HBOD := Lib.hid hbod
              have HPS := Lib.hid hps
              have hlo3 : w.heap.size ≤ w3.heap.size := D3.out.only.size
              clear hnm hc8 hg8 PK D7 B7 hps hrow hbod
              go_wp2_with (at_builtin; refine wpList_append_src rfl _ _ 24 rfl w.heap.size 60 j0 (.agg #[.string ⟨#[]⟩, .slice none 0 0]) 2 40 Tryz.underlying24 hj0 jz0 jz1 jz2 rfl (by decide) _ ds.length _ rfl (HROW.out) _ 1 [.string nm, (.slice E62 x62.length ec62)] rfl SRD.out (by simp [Value.oneCell']) (by unfold maxLen; omega) (by omega) (by have := D8.out.only.size; omega) ?_; intro v9 w9 ho9 ha9; refine unstop ?_)
              refine Stop.go ?_
              have D9 := Lib.hid (D8.out.push HPS.out HROW.out HBOD.out (B8.out.row.mono hlo3) ⟨by have := B8.out.len; omega, B8.out.rng⟩ HNM.out ho9 ha9.out)
              clear ho9 ha9 SRD D8 B8 HROW HBOD HPS D3
              go_wp2_with fail
              go_roundw
              case rel => exact ⟨ds.length + 1, v9, _, by go_num, rfl, by omega, by rw [List.length_append, List.length_singleton], D9⟩
              case measure => simp [intOf]; omega
            · have B5A := Lib.hid (B5.out.alloc (.cells #[.int .i64 8, .int .i32 0] 70))
              have SRC := Lib.hid (src_two w5 (.int .i64 8) (.int .i32 0))
              go_wp2_with (at_builtin; refine wpList_append_src rfl _ _ 57 rfl w3.heap.size 70 i0 (.agg #[.int .i64 0, .int .i32 0]) 2 16 Tryz.underlying57 hi0 hz0 hz1 hz2 rfl (by decide) _ ye.length _ rfl (B5A.out.row) _ 1 [.int .i64 8, .int .i32 0] rfl SRC.out (by simp [Value.oneCell']) (by have := B5A.out.len; unfold maxLen; omega) (by have := B5A.out.len; omega) (by have := B5A.out.only.size; omega) ?_; intro v61 w61 ho61 ha61; refine unstop ?_)
              refine Stop.go ?_
              have B61 := Lib.hid (B5A.out.app (ys := [(8, 0)]) ho61 ha61.out rfl (rng_one (by omega)) (C := 51) (by omega))
              obtain ⟨x61, hx61⟩ : ∃ z, ye ++ [(8, 0)] = z := ⟨_, rfl⟩
              rw [hx61] at B61
              obtain ⟨E61, ec61, rfl⟩ := own_formS B61.out.row
              clear ho61 ha61 hx61 SRC B5 B5A
              have B62 := Lib.hid (B61.out.more (C := 52) (by omega))
              clear B61
              have D7 := Lib.hid ((D3.out.drawn B62.out.cur B62.out.only).alloc (.cells (dNames.map Value.string).toArray 9))
              have PK := Lib.hid (pick_any g w61.heap.size dNames (w61.alloc (.cells (dNames.map Value.string).toArray 9)) D7.out.cur (strs_new w61 9 dNames) (by have := D7.out.only.size; have := D7.out.glt; have := B62.out.only.size; have := B62.out.glt; have := D3.out.only.size; omega) (by simp) (by decide) (by decide))
              have B7 := Lib.hid (B62.out.alloc (.cells (dNames.map Value.string).toArray 9))
              clear B62
              go_wp2_with fail
              refine PK.out.mono ?_
              rintro e w8 ⟨nm, rfl, hnm, hc8, hg8⟩
              have HNM := Lib.hid (dNames_size nm hnm)
              have D8 := Lib.hid ((D7.out.drawn hc8 hg8).alloc (.cells #[.string nm, (.slice E61 x61.length ec61)] 60))
              have B8 := Lib.hid ((B7.out.drawn hc8 hg8).alloc (.cells #[.string nm, (.slice E61 x61.length ec61)] 60))
              have SRD := Lib.hid (src_def w8 (.string nm) (.slice E61 x61.length ec61))
              obtain ⟨ps, hps, hrow, hbod⟩ := D8.out.ex
              have HROW := Lib.hid hrow
              have HBOD := Lib.hid hbod
              have HPS := Lib.hid hps
              have hlo3 : w.heap.size ≤ w3.heap.size := D3.out.only.size
              clear hnm hc8 hg8 PK D7 B7 hps hrow hbod
              go_wp2_with (at_builtin; refine wpList_append_src rfl _ _ 24 rfl w.heap.size 60 j0 (.agg #[.string ⟨#[]⟩, .slice none 0 0]) 2 40 Tryz.underlying24 hj0 jz0 jz1 jz2 rfl (by decide) _ ds.length _ rfl (HROW.out) _ 1 [.string nm, (.slice E61 x61.length ec61)] rfl SRD.out (by simp [Value.oneCell']) (by unfold maxLen; omega) (by omega) (by have := D8.out.only.size; omega) ?_; intro v9 w9 ho9 ha9; refine unstop ?_)
              refine Stop.go ?_
              have D9 := Lib.hid (D8.out.push HPS.out HROW.out HBOD.out (B8.out.row.mono hlo3) ⟨by have := B8.out.len; omega, B8.out.rng⟩ HNM.out ho9 ha9.out)
              clear ho9 ha9 SRD D8 B8 HROW HBOD HPS D3
              go_wp2_with fail
              go_roundw
              case rel => exact ⟨ds.length + 1, v9, _, by go_num, rfl, by omega, by rw [List.length_append, List.length_singleton], D9⟩
              case measure => simp [intOf]; omega
          have q0 : (s == 0) = false := by simpa using h0
          have q1 : (s == 1) = false := by simpa using h1
          clear h0 h1
          have B5A := Lib.hid (B5.out.alloc (.cells #[.int .i64 8, .int .i32 0] 70))
          have SRC := Lib.hid (src_two w5 (.int .i64 8) (.int .i32 0))
          go_wp2_with (at_builtin; refine wpList_append_src rfl _ _ 57 rfl w3.heap.size 70 i0 (.agg #[.int .i64 0, .int .i32 0]) 2 16 Tryz.underlying57 hi0 hz0 hz1 hz2 rfl (by decide) _ ye.length _ rfl (B5A.out.row) _ 1 [.int .i64 8, .int .i32 0] rfl SRC.out (by simp [Value.oneCell']) (by have := B5A.out.len; unfold maxLen; omega) (by have := B5A.out.len; omega) (by have := B5A.out.only.size; omega) ?_; intro v61 w61 ho61 ha61; refine unstop ?_)
          refine Stop.go ?_
          have B61 := Lib.hid (B5A.out.app (ys := [(8, 0)]) ho61 ha61.out rfl (rng_one (by omega)) (C := 51) (by omega))
          obtain ⟨x61, hx61⟩ : ∃ z, ye ++ [(8, 0)] = z := ⟨_, rfl⟩
          rw [hx61] at B61
          obtain ⟨E61, ec61, rfl⟩ := own_formS B61.out.row
          clear ho61 ha61 hx61 SRC B5 B5A
          have B62 := Lib.hid (B61.out.more (C := 52) (by omega))
          clear B61
          have D7 := Lib.hid ((D3.out.drawn B62.out.cur B62.out.only).alloc (.cells (dNames.map Value.string).toArray 9))
          have PK := Lib.hid (pick_any g w61.heap.size dNames (w61.alloc (.cells (dNames.map Value.string).toArray 9)) D7.out.cur (strs_new w61 9 dNames) (by have := D7.out.only.size; have := D7.out.glt; have := B62.out.only.size; have := B62.out.glt; have := D3.out.only.size; omega) (by simp) (by decide) (by decide))
          have B7 := Lib.hid (B62.out.alloc (.cells (dNames.map Value.string).toArray 9))
          clear B62
          go_wp2_with fail
          refine PK.out.mono ?_
          rintro e w8 ⟨nm, rfl, hnm, hc8, hg8⟩
          have HNM := Lib.hid (dNames_size nm hnm)
          have D8 := Lib.hid ((D7.out.drawn hc8 hg8).alloc (.cells #[.string nm, (.slice E61 x61.length ec61)] 60))
          have B8 := Lib.hid ((B7.out.drawn hc8 hg8).alloc (.cells #[.string nm, (.slice E61 x61.length ec61)] 60))
          have SRD := Lib.hid (src_def w8 (.string nm) (.slice E61 x61.length ec61))
          obtain ⟨ps, hps, hrow, hbod⟩ := D8.out.ex
          have HROW := Lib.hid hrow
          have HBOD := Lib.hid hbod
          have HPS := Lib.hid hps
          have hlo3 : w.heap.size ≤ w3.heap.size := D3.out.only.size
          clear hnm hc8 hg8 PK D7 B7 hps hrow hbod
          go_wp2_with (at_builtin; refine wpList_append_src rfl _ _ 24 rfl w.heap.size 60 j0 (.agg #[.string ⟨#[]⟩, .slice none 0 0]) 2 40 Tryz.underlying24 hj0 jz0 jz1 jz2 rfl (by decide) _ ds.length _ rfl (HROW.out) _ 1 [.string nm, (.slice E61 x61.length ec61)] rfl SRD.out (by simp [Value.oneCell']) (by unfold maxLen; omega) (by omega) (by have := D8.out.only.size; omega) ?_; intro v9 w9 ho9 ha9; refine unstop ?_)
          refine Stop.go ?_
          have D9 := Lib.hid (D8.out.push HPS.out HROW.out HBOD.out (B8.out.row.mono hlo3) ⟨by have := B8.out.len; omega, B8.out.rng⟩ HNM.out ho9 ha9.out)
          clear ho9 ha9 SRD D8 B8 HROW HBOD HPS D3
          go_wp2_with fail
          go_roundw
          case rel => exact ⟨ds.length + 1, v9, _, by go_num, rfl, by omega, by rw [List.length_append, List.length_singleton], D9⟩
          case measure => simp [intOf]; omega
        · have B4b := Lib.hid (show BodyAt g w3 50 _ xs w4 from ⟨by omega, B4.out.rng, B4.out.row, B4.out.cur, B4.out.only, B4.out.glt⟩)
          clear B4
          have HS := Lib.hid (below_any g 6 (by omega) (by omega) w4 B4b.out.cur)
          go_wp2_with fail
          refine HS.out.mono ?_
          rintro e w5 ⟨s, rfl, ⟨hs0, hs1⟩, hc5, hg5⟩
          have hs2 : s ≤ 5 := by simpa using hs1
          have B5 := Lib.hid (B4b.out.drawn hc5 hg5)
          clear hc5 hg5 HS B4b hs1
          by_cases h0 : s = 0
          · subst h0
            have B6 := Lib.hid (B5.out.more (C := 52) (by omega))
            clear B5
            have D7 := Lib.hid ((D3.out.drawn B6.out.cur B6.out.only).alloc (.cells (dNames.map Value.string).toArray 9))
            have PK := Lib.hid (pick_any g w5.heap.size dNames (w5.alloc (.cells (dNames.map Value.string).toArray 9)) D7.out.cur (strs_new w5 9 dNames) (by have := D7.out.only.size; have := D7.out.glt; have := B6.out.only.size; have := B6.out.glt; have := D3.out.only.size; omega) (by simp) (by decide) (by decide))
            have B7 := Lib.hid (B6.out.alloc (.cells (dNames.map Value.string).toArray 9))
            clear B6
            go_wp2_with fail
            refine PK.out.mono ?_
            rintro e w8 ⟨nm, rfl, hnm, hc8, hg8⟩
            have HNM := Lib.hid (dNames_size nm hnm)
            have D8 := Lib.hid ((D7.out.drawn hc8 hg8).alloc (.cells #[.string nm, (.slice X4 xs.length xc4)] 60))
            have B8 := Lib.hid ((B7.out.drawn hc8 hg8).alloc (.cells #[.string nm, (.slice X4 xs.length xc4)] 60))
            have SRD := Lib.hid (src_def w8 (.string nm) (.slice X4 xs.length xc4))
            obtain ⟨ps, hps, hrow, hbod⟩ := D8.out.ex
            have HROW := Lib.hid hrow
            have HBOD := Lib.hid hbod
            have HPS := Lib.hid hps
            have hlo3 : w.heap.size ≤ w3.heap.size := D3.out.only.size
            clear hnm hc8 hg8 PK D7 B7 hps hrow hbod
            go_wp2_with (at_builtin; refine wpList_append_src rfl _ _ 24 rfl w.heap.size 60 j0 (.agg #[.string ⟨#[]⟩, .slice none 0 0]) 2 40 Tryz.underlying24 hj0 jz0 jz1 jz2 rfl (by decide) _ ds.length _ rfl (HROW.out) _ 1 [.string nm, (.slice X4 xs.length xc4)] rfl SRD.out (by simp [Value.oneCell']) (by unfold maxLen; omega) (by omega) (by have := D8.out.only.size; omega) ?_; intro v9 w9 ho9 ha9; refine unstop ?_)
            refine Stop.go ?_
            have D9 := Lib.hid (D8.out.push HPS.out HROW.out HBOD.out (B8.out.row.mono hlo3) ⟨by have := B8.out.len; omega, B8.out.rng⟩ HNM.out ho9 ha9.out)
            clear ho9 ha9 SRD D8 B8 HROW HBOD HPS D3
            go_wp2_with fail
            go_roundw
            case rel => exact ⟨ds.length + 1, v9, _, by go_num, rfl, by omega, by rw [List.length_append, List.length_singleton], D9⟩
            case measure => simp [intOf]; omega
          by_cases h1 : s = 1
          · subst h1
            clear h0
            by_cases hc0 : 0 < (ds.length : Int)
            · have HK := Lib.hid (below_any g (ds.length : Int) (by omega) (by omega) w5 B5.out.cur)
              go_wp2_with fail
              refine HK.out.mono ?_
              rintro e w6 ⟨y, rfl, ⟨hy0, hy1⟩, hc6, hg6⟩
              rw [if_neg (by omega)] at hy1
              have wy : IntKind.i32.wrap y = y := IntWalk.i32_in _ (by omega)
              have B6 := Lib.hid (B5.out.drawn hc6 hg6)
              clear hc6 hg6 HK B5
              have B6A := Lib.hid (B6.out.alloc (.cells #[.int .i64 2, .int .i32 y] 70))
              have SRC := Lib.hid (src_two w6 (.int .i64 2) (.int .i32 y))
              go_wp2_with (at_builtin; refine wpList_append_src rfl _ _ 57 rfl w3.heap.size 70 i0 (.agg #[.int .i64 0, .int .i32 0]) 2 16 Tryz.underlying57 hi0 hz0 hz1 hz2 rfl (by decide) _ xs.length _ rfl (B6A.out.row) _ 1 [.int .i64 2, .int .i32 y] rfl SRC.out (by simp [Value.oneCell']) (by have := B6A.out.len; unfold maxLen; omega) (by have := B6A.out.len; omega) (by have := B6A.out.only.size; omega) ?_; intro v61 w61 ho61 ha61; refine unstop ?_)
              refine Stop.go ?_
              have B61 := Lib.hid (B6A.out.app (ys := [(2, y)]) ho61 ha61.out rfl (rng_one (by omega)) (C := 51) (by omega))
              obtain ⟨x61, hx61⟩ : ∃ z, xs ++ [(2, y)] = z := ⟨_, rfl⟩
              rw [hx61] at B61
              obtain ⟨E61, ec61, rfl⟩ := own_formS B61.out.row
              clear ho61 ha61 hx61 SRC B6 B6A
              have B61A := Lib.hid (B61.out.alloc (.cells #[.int .i64 8, .int .i32 0] 70))
              have SRC := Lib.hid (src_two w61 (.int .i64 8) (.int .i32 0))
              go_wp2_with (at_builtin; refine wpList_append_src rfl _ _ 57 rfl w3.heap.size 70 i0 (.agg #[.int .i64 0, .int .i32 0]) 2 16 Tryz.underlying57 hi0 hz0 hz1 hz2 rfl (by decide) _ x61.length _ rfl (B61A.out.row) _ 1 [.int .i64 8, .int .i32 0] rfl SRC.out (by simp [Value.oneCell']) (by have := B61A.out.len; unfold maxLen; omega) (by have := B61A.out.len; omega) (by have := B61A.out.only.size; omega) ?_; intro v62 w62 ho62 ha62; refine unstop ?_)
              refine Stop.go ?_
              have B62 := Lib.hid (B61A.out.app (ys := [(8, 0)]) ho62 ha62.out rfl (rng_one (by omega)) (C := 52) (by omega))
              obtain ⟨x62, hx62⟩ : ∃ z, x61 ++ [(8, 0)] = z := ⟨_, rfl⟩
              rw [hx62] at B62
              obtain ⟨E62, ec62, rfl⟩ := own_formS B62.out.row
              clear ho62 ha62 hx62 SRC B61 B61A
              have D7 := Lib.hid ((D3.out.drawn B62.out.cur B62.out.only).alloc (.cells (dNames.map Value.string).toArray 9))
              have PK := Lib.hid (pick_any g w62.heap.size dNames (w62.alloc (.cells (dNames.map Value.string).toArray 9)) D7.out.cur (strs_new w62 9 dNames) (by have := D7.out.only.size; have := D7.out.glt; have := B62.out.only.size; have := B62.out.glt; have := D3.out.only.size; omega) (by simp) (by decide) (by decide))
              have B7 := Lib.hid (B62.out.alloc (.cells (dNames.map Value.string).toArray 9))
              clear B62
              go_wp2_with fail
              refine PK.out.mono ?_
              rintro e w8 ⟨nm, rfl, hnm, hc8, hg8⟩
              have HNM := Lib.hid (dNames_size nm hnm)
              have D8 := Lib.hid ((D7.out.drawn hc8 hg8).alloc (.cells #[.string nm, (.slice E62 x62.length ec62)] 60))
              have B8 := Lib.hid ((B7.out.drawn hc8 hg8).alloc (.cells #[.string nm, (.slice E62 x62.length ec62)] 60))
              have SRD := Lib.hid (src_def w8 (.string nm) (.slice E62 x62.length ec62))
              obtain ⟨ps, hps, hrow, hbod⟩ := D8.out.ex
              have HROW := Lib.hid hrow
              have HBOD := Lib.hid hbod
              have HPS := Lib.hid hps
              have hlo3 : w.heap.size ≤ w3.heap.size := D3.out.only.size
              clear hnm hc8 hg8 PK D7 B7 hps hrow hbod
              go_wp2_with (at_builtin; refine wpList_append_src rfl _ _ 24 rfl w.heap.size 60 j0 (.agg #[.string ⟨#[]⟩, .slice none 0 0]) 2 40 Tryz.underlying24 hj0 jz0 jz1 jz2 rfl (by decide) _ ds.length _ rfl (HROW.out) _ 1 [.string nm, (.slice E62 x62.length ec62)] rfl SRD.out (by simp [Value.oneCell']) (by unfold maxLen; omega) (by omega) (by have := D8.out.only.size; omega) ?_; intro v9 w9 ho9 ha9; refine unstop ?_)
              refine Stop.go ?_
              have D9 := Lib.hid (D8.out.push HPS.out HROW.out HBOD.out (B8.out.row.mono hlo3) ⟨by have := B8.out.len; omega, B8.out.rng⟩ HNM.out ho9 ha9.out)
              clear ho9 ha9 SRD D8 B8 HROW HBOD HPS D3
              go_wp2_with fail
              go_roundw
              case rel => exact ⟨ds.length + 1, v9, _, by go_num, rfl, by omega, by rw [List.length_append, List.length_singleton], D9⟩
              case measure => simp [intOf]; omega
            · have B5A := Lib.hid (B5.out.alloc (.cells #[.int .i64 8, .int .i32 0] 70))
              have SRC := Lib.hid (src_two w5 (.int .i64 8) (.int .i32 0))
              go_wp2_with (at_builtin; refine wpList_append_src rfl _ _ 57 rfl w3.heap.size 70 i0 (.agg #[.int .i64 0, .int .i32 0]) 2 16 Tryz.underlying57 hi0 hz0 hz1 hz2 rfl (by decide) _ xs.length _ rfl (B5A.out.row) _ 1 [.int .i64 8, .int .i32 0] rfl SRC.out (by simp [Value.oneCell']) (by have := B5A.out.len; unfold maxLen; omega) (by have := B5A.out.len; omega) (by have := B5A.out.only.size; omega) ?_; intro v61 w61 ho61 ha61; refine unstop ?_)
              refine Stop.go ?_
              have B61 := Lib.hid (B5A.out.app (ys := [(8, 0)]) ho61 ha61.out rfl (rng_one (by omega)) (C := 51) (by omega))
              obtain ⟨x61, hx61⟩ : ∃ z, xs ++ [(8, 0)] = z := ⟨_, rfl⟩
              rw [hx61] at B61
              obtain ⟨E61, ec61, rfl⟩ := own_formS B61.out.row
              clear ho61 ha61 hx61 SRC B5 B5A
              have B62 := Lib.hid (B61.out.more (C := 52) (by omega))
              clear B61
              have D7 := Lib.hid ((D3.out.drawn B62.out.cur B62.out.only).alloc (.cells (dNames.map Value.string).toArray 9))
              have PK := Lib.hid (pick_any g w61.heap.size dNames (w61.alloc (.cells (dNames.map Value.string).toArray 9)) D7.out.cur (strs_new w61 9 dNames) (by have := D7.out.only.size; have := D7.out.glt; have := B62.out.only.size; have := B62.out.glt; have := D3.out.only.size; omega) (by simp) (by decide) (by decide))
              have B7 := Lib.hid (B62.out.alloc (.cells (dNames.map Value.string).toArray 9))
              clear B62
              go_wp2_with fail
              refine PK.out.mono ?_
              rintro e w8 ⟨nm, rfl, hnm, hc8, hg8⟩
              have HNM := Lib.hid (dNames_size nm hnm)
              have D8 := Lib.hid ((D7.out.drawn hc8 hg8).alloc (.cells #[.string nm, (.slice E61 x61.length ec61)] 60))
              have B8 := Lib.hid ((B7.out.drawn hc8 hg8).alloc (.cells #[.string nm, (.slice E61 x61.length ec61)] 60))
              have SRD := Lib.hid (src_def w8 (.string nm) (.slice E61 x61.length ec61))
              obtain ⟨ps, hps, hrow, hbod⟩ := D8.out.ex
              have HROW := Lib.hid hrow
              have HBOD := Lib.hid hbod
              have HPS := Lib.hid hps
              have hlo3 : w.heap.size ≤ w3.heap.size := D3.out.only.size
              clear hnm hc8 hg8 PK D7 B7 hps hrow hbod
              go_wp2_with (at_builtin; refine wpList_append_src rfl _ _ 24 rfl w.heap.size 60 j0 (.agg #[.string ⟨#[]⟩, .slice none 0 0]) 2 40 Tryz.underlying24 hj0 jz0 jz1 jz2 rfl (by decide) _ ds.length _ rfl (HROW.out) _ 1 [.string nm, (.slice E61 x61.length ec61)] rfl SRD.out (by simp [Value.oneCell']) (by unfold maxLen; omega) (by omega) (by have := D8.out.only.size; omega) ?_; intro v9 w9 ho9 ha9; refine unstop ?_)
              refine Stop.go ?_
              have D9 := Lib.hid (D8.out.push HPS.out HROW.out HBOD.out (B8.out.row.mono hlo3) ⟨by have := B8.out.len; omega, B8.out.rng⟩ HNM.out ho9 ha9.out)
              clear ho9 ha9 SRD D8 B8 HROW HBOD HPS D3
              go_wp2_with fail
              go_roundw
              case rel => exact ⟨ds.length + 1, v9, _, by go_num, rfl, by omega, by rw [List.length_append, List.length_singleton], D9⟩
              case measure => simp [intOf]; omega
          have q0 : (s == 0) = false := by simpa using h0
          have q1 : (s == 1) = false := by simpa using h1
          clear h0 h1
          have B5A := Lib.hid (B5.out.alloc (.cells #[.int .i64 8, .int .i32 0] 70))
          have SRC := Lib.hid (src_two w5 (.int .i64 8) (.int .i32 0))
          go_wp2_with (at_builtin; refine wpList_append_src rfl _ _ 57 rfl w3.heap.size 70 i0 (.agg #[.int .i64 0, .int .i32 0]) 2 16 Tryz.underlying57 hi0 hz0 hz1 hz2 rfl (by decide) _ xs.length _ rfl (B5A.out.row) _ 1 [.int .i64 8, .int .i32 0] rfl SRC.out (by simp [Value.oneCell']) (by have := B5A.out.len; unfold maxLen; omega) (by have := B5A.out.len; omega) (by have := B5A.out.only.size; omega) ?_; intro v61 w61 ho61 ha61; refine unstop ?_)
          refine Stop.go ?_
          have B61 := Lib.hid (B5A.out.app (ys := [(8, 0)]) ho61 ha61.out rfl (rng_one (by omega)) (C := 51) (by omega))
          obtain ⟨x61, hx61⟩ : ∃ z, xs ++ [(8, 0)] = z := ⟨_, rfl⟩
          rw [hx61] at B61
          obtain ⟨E61, ec61, rfl⟩ := own_formS B61.out.row
          clear ho61 ha61 hx61 SRC B5 B5A
          have B62 := Lib.hid (B61.out.more (C := 52) (by omega))
          clear B61
          have D7 := Lib.hid ((D3.out.drawn B62.out.cur B62.out.only).alloc (.cells (dNames.map Value.string).toArray 9))
          have PK := Lib.hid (pick_any g w61.heap.size dNames (w61.alloc (.cells (dNames.map Value.string).toArray 9)) D7.out.cur (strs_new w61 9 dNames) (by have := D7.out.only.size; have := D7.out.glt; have := B62.out.only.size; have := B62.out.glt; have := D3.out.only.size; omega) (by simp) (by decide) (by decide))
          have B7 := Lib.hid (B62.out.alloc (.cells (dNames.map Value.string).toArray 9))
          clear B62
          go_wp2_with fail
          refine PK.out.mono ?_
          rintro e w8 ⟨nm, rfl, hnm, hc8, hg8⟩
          have HNM := Lib.hid (dNames_size nm hnm)
          have D8 := Lib.hid ((D7.out.drawn hc8 hg8).alloc (.cells #[.string nm, (.slice E61 x61.length ec61)] 60))
          have B8 := Lib.hid ((B7.out.drawn hc8 hg8).alloc (.cells #[.string nm, (.slice E61 x61.length ec61)] 60))
          have SRD := Lib.hid (src_def w8 (.string nm) (.slice E61 x61.length ec61))
          obtain ⟨ps, hps, hrow, hbod⟩ := D8.out.ex
          have HROW := Lib.hid hrow
          have HBOD := Lib.hid hbod
          have HPS := Lib.hid hps
          have hlo3 : w.heap.size ≤ w3.heap.size := D3.out.only.size
          clear hnm hc8 hg8 PK D7 B7 hps hrow hbod
          go_wp2_with (at_builtin; refine wpList_append_src rfl _ _ 24 rfl w.heap.size 60 j0 (.agg #[.string ⟨#[]⟩, .slice none 0 0]) 2 40 Tryz.underlying24 hj0 jz0 jz1 jz2 rfl (by decide) _ ds.length _ rfl (HROW.out) _ 1 [.string nm, (.slice E61 x61.length ec61)] rfl SRD.out (by simp [Value.oneCell']) (by unfold maxLen; omega) (by omega) (by have := D8.out.only.size; omega) ?_; intro v9 w9 ho9 ha9; refine unstop ?_)
          refine Stop.go ?_
          have D9 := Lib.hid (D8.out.push HPS.out HROW.out HBOD.out (B8.out.row.mono hlo3) ⟨by have := B8.out.len; omega, B8.out.rng⟩ HNM.out ho9 ha9.out)
          clear ho9 ha9 SRD D8 B8 HROW HBOD HPS D3
          go_wp2_with fail
          go_roundw
          case rel => exact ⟨ds.length + 1, v9, _, by go_num, rfl, by omega, by rw [List.length_append, List.length_singleton], D9⟩
          case measure => simp [intOf]; omega
      | true =>
        have HB := Lib.hid (body_any 2 (by omega) g (n : Int) (by omega) (by omega) w3 D3.out.cur)
        go_wp2_with fail
        refine HB.out.mono ?_
        rintro e w4 ⟨v4, xs, rfl, h4⟩
        obtain ⟨X4, xc4, rfl⟩ := own_formS h4.row
        have B4 := Lib.hid h4
        clear h4 HB
        by_cases hbig : (50 : Int) < (xs.length : Int)
        · obtain ⟨we, hwe⟩ : ∃ W, W = w4.alloc (.cells #[] 70) := ⟨_, rfl⟩
          obtain ⟨ue, hue⟩ : ∃ u, u = Value.slice (some ⟨w4.heap.size, 0, none⟩) 0 0 := ⟨_, rfl⟩
          obtain ⟨ye, hye⟩ : ∃ ye : List (Int × Int), ye = [] := ⟨_, rfl⟩
          have BE : Hid (BodyAt g w3 50 ue ye we) := Lib.hid (by rw [hwe, hue, hye]; exact ⟨by simp, fun o ho => by simp at ho, (own_emptyO w4).mono B4.out.only.size, (B4.out.alloc _).cur, (B4.out.alloc _).only, B4.out.glt⟩)
          have HWE := Lib.hid hwe
          have HUE := Lib.hid hue
          clear B4 hwe hye hue
          go_upto_region 12 with (fail)
          rw [← HWE.out, ← HUE.out]
          clear HWE HUE
          obtain ⟨EE, eec, rfl⟩ := own_formS BE.out.row
          have HS := Lib.hid (below_any g 6 (by omega) (by omega) we BE.out.cur)
          go_wp2_with fail
          refine HS.out.mono ?_
          rintro e w5 ⟨s, rfl, ⟨hs0, hs1⟩, hc5, hg5⟩
          have hs2 : s ≤ 5 := by simpa using hs1
          have B5 := Lib.hid (BE.out.drawn hc5 hg5)
          clear hc5 hg5 HS BE hs1
          by_cases h0 : s = 0
          · subst h0
            have B6 := Lib.hid (B5.out.more (C := 52) (by omega))
            clear B5
            have D7 := Lib.hid ((D3.out.drawn B6.out.cur B6.out.only).alloc (.cells (dNames.map Value.string).toArray 9))
            have PK := Lib.hid (pick_any g w5.heap.size dNames (w5.alloc (.cells (dNames.map Value.string).toArray 9)) D7.out.cur (strs_new w5 9 dNames) (by have := D7.out.only.size; have := D7.out.glt; have := B6.out.only.size; have := B6.out.glt; have := D3.out.only.size; omega) (by simp) (by decide) (by decide))
            have B7 := Lib.hid (B6.out.alloc (.cells (dNames.map Value.string).toArray 9))
            clear B6
            go_wp2_with fail
            refine PK.out.mono ?_
            rintro e w8 ⟨nm, rfl, hnm, hc8, hg8⟩
            have HNM := Lib.hid (dNames_size nm hnm)
            have D8 := Lib.hid ((D7.out.drawn hc8 hg8).alloc (.cells #[.string nm, (.slice EE ye.length eec)] 60))
            have B8 := Lib.hid ((B7.out.drawn hc8 hg8).alloc (.cells #[.string nm, (.slice EE ye.length eec)] 60))
            have SRD := Lib.hid (src_def w8 (.string nm) (.slice EE ye.length eec))
            obtain ⟨ps, hps, hrow, hbod⟩ := D8.out.ex
            have HROW := Lib.hid hrow
            have HBOD := Lib.hid hbod
            have HPS := Lib.hid hps
            have hlo3 : w.heap.size ≤ w3.heap.size := D3.out.only.size
            clear hnm hc8 hg8 PK D7 B7 hps hrow hbod
            go_wp2_with (at_builtin; refine wpList_append_src rfl _ _ 24 rfl w.heap.size 60 j0 (.agg #[.string ⟨#[]⟩, .slice none 0 0]) 2 40 Tryz.underlying24 hj0 jz0 jz1 jz2 rfl (by decide) _ ds.length _ rfl (HROW.out) _ 1 [.string nm, (.slice EE ye.length eec)] rfl SRD.out (by simp [Value.oneCell']) (by unfold maxLen; omega) (by omega) (by have := D8.out.only.size; omega) ?_; intro v9 w9 ho9 ha9; refine unstop ?_)
            refine Stop.go ?_
            have D9 := Lib.hid (D8.out.push HPS.out HROW.out HBOD.out (B8.out.row.mono hlo3) ⟨by have := B8.out.len; omega, B8.out.rng⟩ HNM.out ho9 ha9.out)
            clear ho9 ha9 SRD D8 B8 HROW HBOD HPS D3
            go_wp2_with fail
            go_roundw
            case rel => exact ⟨ds.length + 1, v9, _, by go_num, rfl, by omega, by rw [List.length_append, List.length_singleton], D9⟩
            case measure => simp [intOf]; omega
          by_cases h1 : s = 1
          · subst h1
            clear h0
            by_cases hc0 : 0 < (n : Int)
            · have HK := Lib.hid (below_any g (n : Int) (by omega) (by omega) w5 B5.out.cur)
              go_wp2_with fail
              refine HK.out.mono ?_
              rintro e w6 ⟨y, rfl, ⟨hy0, hy1⟩, hc6, hg6⟩
              rw [if_neg (by omega)] at hy1
              have wy : IntKind.i32.wrap y = y := IntWalk.i32_in _ (by omega)
              have B6 := Lib.hid (B5.out.drawn hc6 hg6)
              clear hc6 hg6 HK B5
              have B6A := Lib.hid (B6.out.alloc (.cells #[.int .i64 2, .int .i32 y] 70))
              have SRC := Lib.hid (src_two w6 (.int .i64 2) (.int .i32 y))
              go_wp2_with (at_builtin; refine wpList_append_src rfl _ _ 57 rfl w3.heap.size 70 i0 (.agg #[.int .i64 0, .int .i32 0]) 2 16 Tryz.underlying57 hi0 hz0 hz1 hz2 rfl (by decide) _ ye.length _ rfl (B6A.out.row) _ 1 [.int .i64 2, .int .i32 y] rfl SRC.out (by simp [Value.oneCell']) (by have := B6A.out.len; unfold maxLen; omega) (by have := B6A.out.len; omega) (by have := B6A.out.only.size; omega) ?_; intro v61 w61 ho61 ha61; refine unstop ?_)
              refine Stop.go ?_
              have B61 := Lib.hid (B6A.out.app (ys := [(2, y)]) ho61 ha61.out rfl (rng_one (by omega)) (C := 51) (by omega))
              obtain ⟨x61, hx61⟩ : ∃ z, ye ++ [(2, y)] = z := ⟨_, rfl⟩
              rw [hx61] at B61
              obtain ⟨E61, ec61, rfl⟩ := own_formS B61.out.row
              clear ho61 ha61 hx61 SRC B6 B6A
              have B61A := Lib.hid (B61.out.alloc (.cells #[.int .i64 8, .int .i32 0] 70))
              have SRC := Lib.hid (src_two w61 (.int .i64 8) (.int .i32 0))
              go_wp2_with (at_builtin; refine wpList_append_src rfl _ _ 57 rfl w3.heap.size 70 i0 (.agg #[.int .i64 0, .int .i32 0]) 2 16 Tryz.underlying57 hi0 hz0 hz1 hz2 rfl (by decide) _ x61.length _ rfl (B61A.out.row) _ 1 [.int .i64 8, .int .i32 0] rfl SRC.out (by simp [Value.oneCell']) (by have := B61A.out.len; unfold maxLen; omega) (by have := B61A.out.len; omega) (by have := B61A.out.only.size; omega) ?_; intro v62 w62 ho62 ha62; refine unstop ?_)
              refine Stop.go ?_
              have B62 := Lib.hid (B61A.out.app (ys := [(8, 0)]) ho62 ha62.out rfl (rng_one (by omega)) (C := 52) (by omega))
              obtain ⟨x62, hx62⟩ : ∃ z, x61 ++ [(8, 0)] = z := ⟨_, rfl⟩
              rw [hx62] at B62
              obtain ⟨E62, ec62, rfl⟩ := own_formS B62.out.row
              clear ho62 ha62 hx62 SRC B61 B61A
              have D7 := Lib.hid ((D3.out.drawn B62.out.cur B62.out.only).alloc (.cells (dNames.map Value.string).toArray 9))
              have PK := Lib.hid (pick_any g w62.heap.size dNames (w62.alloc (.cells (dNames.map Value.string).toArray 9)) D7.out.cur (strs_new w62 9 dNames) (by have := D7.out.only.size; have := D7.out.glt; have := B62.out.only.size; have := B62.out.glt; have := D3.out.only.size; omega) (by simp) (by decide) (by decide))
              have B7 := Lib.hid (B62.out.alloc (.cells (dNames.map Value.string).toArray 9))
              clear B62
              go_wp2_with fail
              refine PK.out.mono ?_
              rintro e w8 ⟨nm, rfl, hnm, hc8, hg8⟩
              have HNM := Lib.hid (dNames_size nm hnm)
              have D8 := Lib.hid ((D7.out.drawn hc8 hg8).alloc (.cells #[.string nm, (.slice E62 x62.length ec62)] 60))
              have B8 := Lib.hid ((B7.out.drawn hc8 hg8).alloc (.cells #[.string nm, (.slice E62 x62.length ec62)] 60))
              have SRD := Lib.hid (src_def w8 (.string nm) (.slice E62 x62.length ec62))
              obtain ⟨ps, hps, hrow, hbod⟩ := D8.out.ex
              have HROW := Lib.hid hrow
              have HBOD := Lib.hid hbod
              have HPS := Lib.hid hps
              have hlo3 : w.heap.size ≤ w3.heap.size := D3.out.only.size
              clear hnm hc8 hg8 PK D7 B7 hps hrow hbod
              go_wp2_with (at_builtin; refine wpList_append_src rfl _ _ 24 rfl w.heap.size 60 j0 (.agg #[.string ⟨#[]⟩, .slice none 0 0]) 2 40 Tryz.underlying24 hj0 jz0 jz1 jz2 rfl (by decide) _ ds.length _ rfl (HROW.out) _ 1 [.string nm, (.slice E62 x62.length ec62)] rfl SRD.out (by simp [Value.oneCell']) (by unfold maxLen; omega) (by omega) (by have := D8.out.only.size; omega) ?_; intro v9 w9 ho9 ha9; refine unstop ?_)
              refine Stop.go ?_
              have D9 := Lib.hid (D8.out.push HPS.out HROW.out HBOD.out (B8.out.row.mono hlo3) ⟨by have := B8.out.len; omega, B8.out.rng⟩ HNM.out ho9 ha9.out)
              clear ho9 ha9 SRD D8 B8 HROW HBOD HPS D3
              go_wp2_with fail
              go_roundw
              case rel => exact ⟨ds.length + 1, v9, _, by go_num, rfl, by omega, by rw [List.length_append, List.length_singleton], D9⟩
              case measure => simp [intOf]; omega
            · exact absurd hn1 (by omega)
          have q0 : (s == 0) = false := by simpa using h0
          have q1 : (s == 1) = false := by simpa using h1
          clear h0 h1
          have B5A := Lib.hid (B5.out.alloc (.cells #[.int .i64 8, .int .i32 0] 70))
          have SRC := Lib.hid (src_two w5 (.int .i64 8) (.int .i32 0))
          go_wp2_with (at_builtin; refine wpList_append_src rfl _ _ 57 rfl w3.heap.size 70 i0 (.agg #[.int .i64 0, .int .i32 0]) 2 16 Tryz.underlying57 hi0 hz0 hz1 hz2 rfl (by decide) _ ye.length _ rfl (B5A.out.row) _ 1 [.int .i64 8, .int .i32 0] rfl SRC.out (by simp [Value.oneCell']) (by have := B5A.out.len; unfold maxLen; omega) (by have := B5A.out.len; omega) (by have := B5A.out.only.size; omega) ?_; intro v61 w61 ho61 ha61; refine unstop ?_)
          refine Stop.go ?_
          have B61 := Lib.hid (B5A.out.app (ys := [(8, 0)]) ho61 ha61.out rfl (rng_one (by omega)) (C := 51) (by omega))
          obtain ⟨x61, hx61⟩ : ∃ z, ye ++ [(8, 0)] = z := ⟨_, rfl⟩
          rw [hx61] at B61
          obtain ⟨E61, ec61, rfl⟩ := own_formS B61.out.row
          clear ho61 ha61 hx61 SRC B5 B5A
          have B62 := Lib.hid (B61.out.more (C := 52) (by omega))
          clear B61
          have D7 := Lib.hid ((D3.out.drawn B62.out.cur B62.out.only).alloc (.cells (dNames.map Value.string).toArray 9))
          have PK := Lib.hid (pick_any g w61.heap.size dNames (w61.alloc (.cells (dNames.map Value.string).toArray 9)) D7.out.cur (strs_new w61 9 dNames) (by have := D7.out.only.size; have := D7.out.glt; have := B62.out.only.size; have := B62.out.glt; have := D3.out.only.size; omega) (by simp) (by decide) (by decide))
          have B7 := Lib.hid (B62.out.alloc (.cells (dNames.map Value.string).toArray 9))
          clear B62
          go_wp2_with fail
          refine PK.out.mono ?_
          rintro e w8 ⟨nm, rfl, hnm, hc8, hg8⟩
          have HNM := Lib.hid (dNames_size nm hnm)
          have D8 := Lib.hid ((D7.out.drawn hc8 hg8).alloc (.cells #[.string nm, (.slice E61 x61.length ec61)] 60))
          have B8 := Lib.hid ((B7.out.drawn hc8 hg8).alloc (.cells #[.string nm, (.slice E61 x61.length ec61)] 60))
          have SRD := Lib.hid (src_def w8 (.string nm) (.slice E61 x61.length ec61))
          obtain ⟨ps, hps, hrow, hbod⟩ := D8.out.ex
          have HROW := Lib.hid hrow
          have HBOD := Lib.hid hbod
          have HPS := Lib.hid hps
          have hlo3 : w.heap.size ≤ w3.heap.size := D3.out.only.size
          clear hnm hc8 hg8 PK D7 B7 hps hrow hbod
          go_wp2_with (at_builtin; refine wpList_append_src rfl _ _ 24 rfl w.heap.size 60 j0 (.agg #[.string ⟨#[]⟩, .slice none 0 0]) 2 40 Tryz.underlying24 hj0 jz0 jz1 jz2 rfl (by decide) _ ds.length _ rfl (HROW.out) _ 1 [.string nm, (.slice E61 x61.length ec61)] rfl SRD.out (by simp [Value.oneCell']) (by unfold maxLen; omega) (by omega) (by have := D8.out.only.size; omega) ?_; intro v9 w9 ho9 ha9; refine unstop ?_)
          refine Stop.go ?_
          have D9 := Lib.hid (D8.out.push HPS.out HROW.out HBOD.out (B8.out.row.mono hlo3) ⟨by have := B8.out.len; omega, B8.out.rng⟩ HNM.out ho9 ha9.out)
          clear ho9 ha9 SRD D8 B8 HROW HBOD HPS D3
          go_wp2_with fail
          go_roundw
          case rel => exact ⟨ds.length + 1, v9, _, by go_num, rfl, by omega, by rw [List.length_append, List.length_singleton], D9⟩
          case measure => simp [intOf]; omega
        · have B4b := Lib.hid (show BodyAt g w3 50 _ xs w4 from ⟨by omega, B4.out.rng, B4.out.row, B4.out.cur, B4.out.only, B4.out.glt⟩)
          clear B4
          have HS := Lib.hid (below_any g 6 (by omega) (by omega) w4 B4b.out.cur)
          go_wp2_with fail
          refine HS.out.mono ?_
          rintro e w5 ⟨s, rfl, ⟨hs0, hs1⟩, hc5, hg5⟩
          have hs2 : s ≤ 5 := by simpa using hs1
          have B5 := Lib.hid (B4b.out.drawn hc5 hg5)
          clear hc5 hg5 HS B4b hs1
          by_cases h0 : s = 0
          · subst h0
            have B6 := Lib.hid (B5.out.more (C := 52) (by omega))
            clear B5
            have D7 := Lib.hid ((D3.out.drawn B6.out.cur B6.out.only).alloc (.cells (dNames.map Value.string).toArray 9))
            have PK := Lib.hid (pick_any g w5.heap.size dNames (w5.alloc (.cells (dNames.map Value.string).toArray 9)) D7.out.cur (strs_new w5 9 dNames) (by have := D7.out.only.size; have := D7.out.glt; have := B6.out.only.size; have := B6.out.glt; have := D3.out.only.size; omega) (by simp) (by decide) (by decide))
            have B7 := Lib.hid (B6.out.alloc (.cells (dNames.map Value.string).toArray 9))
            clear B6
            go_wp2_with fail
            refine PK.out.mono ?_
            rintro e w8 ⟨nm, rfl, hnm, hc8, hg8⟩
            have HNM := Lib.hid (dNames_size nm hnm)
            have D8 := Lib.hid ((D7.out.drawn hc8 hg8).alloc (.cells #[.string nm, (.slice X4 xs.length xc4)] 60))
            have B8 := Lib.hid ((B7.out.drawn hc8 hg8).alloc (.cells #[.string nm, (.slice X4 xs.length xc4)] 60))
            have SRD := Lib.hid (src_def w8 (.string nm) (.slice X4 xs.length xc4))
            obtain ⟨ps, hps, hrow, hbod⟩ := D8.out.ex
            have HROW := Lib.hid hrow
            have HBOD := Lib.hid hbod
            have HPS := Lib.hid hps
            have hlo3 : w.heap.size ≤ w3.heap.size := D3.out.only.size
            clear hnm hc8 hg8 PK D7 B7 hps hrow hbod
            go_wp2_with (at_builtin; refine wpList_append_src rfl _ _ 24 rfl w.heap.size 60 j0 (.agg #[.string ⟨#[]⟩, .slice none 0 0]) 2 40 Tryz.underlying24 hj0 jz0 jz1 jz2 rfl (by decide) _ ds.length _ rfl (HROW.out) _ 1 [.string nm, (.slice X4 xs.length xc4)] rfl SRD.out (by simp [Value.oneCell']) (by unfold maxLen; omega) (by omega) (by have := D8.out.only.size; omega) ?_; intro v9 w9 ho9 ha9; refine unstop ?_)
            refine Stop.go ?_
            have D9 := Lib.hid (D8.out.push HPS.out HROW.out HBOD.out (B8.out.row.mono hlo3) ⟨by have := B8.out.len; omega, B8.out.rng⟩ HNM.out ho9 ha9.out)
            clear ho9 ha9 SRD D8 B8 HROW HBOD HPS D3
            go_wp2_with fail
            go_roundw
            case rel => exact ⟨ds.length + 1, v9, _, by go_num, rfl, by omega, by rw [List.length_append, List.length_singleton], D9⟩
            case measure => simp [intOf]; omega
          by_cases h1 : s = 1
          · subst h1
            clear h0
            by_cases hc0 : 0 < (n : Int)
            · have HK := Lib.hid (below_any g (n : Int) (by omega) (by omega) w5 B5.out.cur)
              go_wp2_with fail
              refine HK.out.mono ?_
              rintro e w6 ⟨y, rfl, ⟨hy0, hy1⟩, hc6, hg6⟩
              rw [if_neg (by omega)] at hy1
              have wy : IntKind.i32.wrap y = y := IntWalk.i32_in _ (by omega)
              have B6 := Lib.hid (B5.out.drawn hc6 hg6)
              clear hc6 hg6 HK B5
              have B6A := Lib.hid (B6.out.alloc (.cells #[.int .i64 2, .int .i32 y] 70))
              have SRC := Lib.hid (src_two w6 (.int .i64 2) (.int .i32 y))
              go_wp2_with (at_builtin; refine wpList_append_src rfl _ _ 57 rfl w3.heap.size 70 i0 (.agg #[.int .i64 0, .int .i32 0]) 2 16 Tryz.underlying57 hi0 hz0 hz1 hz2 rfl (by decide) _ xs.length _ rfl (B6A.out.row) _ 1 [.int .i64 2, .int .i32 y] rfl SRC.out (by simp [Value.oneCell']) (by have := B6A.out.len; unfold maxLen; omega) (by have := B6A.out.len; omega) (by have := B6A.out.only.size; omega) ?_; intro v61 w61 ho61 ha61; refine unstop ?_)
              refine Stop.go ?_
              have B61 := Lib.hid (B6A.out.app (ys := [(2, y)]) ho61 ha61.out rfl (rng_one (by omega)) (C := 51) (by omega))
              obtain ⟨x61, hx61⟩ : ∃ z, xs ++ [(2, y)] = z := ⟨_, rfl⟩
              rw [hx61] at B61
              obtain ⟨E61, ec61, rfl⟩ := own_formS B61.out.row
              clear ho61 ha61 hx61 SRC B6 B6A
              have B61A := Lib.hid (B61.out.alloc (.cells #[.int .i64 8, .int .i32 0] 70))
              have SRC := Lib.hid (src_two w61 (.int .i64 8) (.int .i32 0))
              go_wp2_with (at_builtin; refine wpList_append_src rfl _ _ 57 rfl w3.heap.size 70 i0 (.agg #[.int .i64 0, .int .i32 0]) 2 16 Tryz.underlying57 hi0 hz0 hz1 hz2 rfl (by decide) _ x61.length _ rfl (B61A.out.row) _ 1 [.int .i64 8, .int .i32 0] rfl SRC.out (by simp [Value.oneCell']) (by have := B61A.out.len; unfold maxLen; omega) (by have := B61A.out.len; omega) (by have := B61A.out.only.size; omega) ?_; intro v62 w62 ho62 ha62; refine unstop ?_)
              refine Stop.go ?_
              have B62 := Lib.hid (B61A.out.app (ys := [(8, 0)]) ho62 ha62.out rfl (rng_one (by omega)) (C := 52) (by omega))
              obtain ⟨x62, hx62⟩ : ∃ z, x61 ++ [(8, 0)] = z := ⟨_, rfl⟩
              rw [hx62] at B62
              obtain ⟨E62, ec62, rfl⟩ := own_formS B62.out.row
              clear ho62 ha62 hx62 SRC B61 B61A
              have D7 := Lib.hid ((D3.out.drawn B62.out.cur B62.out.only).alloc (.cells (dNames.map Value.string).toArray 9))
              have PK := Lib.hid (pick_any g w62.heap.size dNames (w62.alloc (.cells (dNames.map Value.string).toArray 9)) D7.out.cur (strs_new w62 9 dNames) (by have := D7.out.only.size; have := D7.out.glt; have := B62.out.only.size; have := B62.out.glt; have := D3.out.only.size; omega) (by simp) (by decide) (by decide))
              have B7 := Lib.hid (B62.out.alloc (.cells (dNames.map Value.string).toArray 9))
              clear B62
              go_wp2_with fail
              refine PK.out.mono ?_
              rintro e w8 ⟨nm, rfl, hnm, hc8, hg8⟩
              have HNM := Lib.hid (dNames_size nm hnm)
              have D8 := Lib.hid ((D7.out.drawn hc8 hg8).alloc (.cells #[.string nm, (.slice E62 x62.length ec62)] 60))
              have B8 := Lib.hid ((B7.out.drawn hc8 hg8).alloc (.cells #[.string nm, (.slice E62 x62.length ec62)] 60))
              have SRD := Lib.hid (src_def w8 (.string nm) (.slice E62 x62.length ec62))
              obtain ⟨ps, hps, hrow, hbod⟩ := D8.out.ex
              have HROW := Lib.hid hrow
              have HBOD := Lib.hid hbod
              have HPS := Lib.hid hps
              have hlo3 : w.heap.size ≤ w3.heap.size := D3.out.only.size
              clear hnm hc8 hg8 PK D7 B7 hps hrow hbod
              go_wp2_with (at_builtin; refine wpList_append_src rfl _ _ 24 rfl w.heap.size 60 j0 (.agg #[.string ⟨#[]⟩, .slice none 0 0]) 2 40 Tryz.underlying24 hj0 jz0 jz1 jz2 rfl (by decide) _ ds.length _ rfl (HROW.out) _ 1 [.string nm, (.slice E62 x62.length ec62)] rfl SRD.out (by simp [Value.oneCell']) (by unfold maxLen; omega) (by omega) (by have := D8.out.only.size; omega) ?_; intro v9 w9 ho9 ha9; refine unstop ?_)
              refine Stop.go ?_
              have D9 := Lib.hid (D8.out.push HPS.out HROW.out HBOD.out (B8.out.row.mono hlo3) ⟨by have := B8.out.len; omega, B8.out.rng⟩ HNM.out ho9 ha9.out)
              clear ho9 ha9 SRD D8 B8 HROW HBOD HPS D3
              go_wp2_with fail
              go_roundw
              case rel => exact ⟨ds.length + 1, v9, _, by go_num, rfl, by omega, by rw [List.length_append, List.length_singleton], D9⟩
              case measure => simp [intOf]; omega
            · exact absurd hn1 (by omega)
          have q0 : (s == 0) = false := by simpa using h0
          have q1 : (s == 1) = false := by simpa using h1
          clear h0 h1
          have B5A := Lib.hid (B5.out.alloc (.cells #[.int .i64 8, .int .i32 0] 70))
          have SRC := Lib.hid (src_two w5 (.int .i64 8) (.int .i32 0))
          go_wp2_with (at_builtin; refine wpList_append_src rfl _ _ 57 rfl w3.heap.size 70 i0 (.agg #[.int .i64 0, .int .i32 0]) 2 16 Tryz.underlying57 hi0 hz0 hz1 hz2 rfl (by decide) _ xs.length _ rfl (B5A.out.row) _ 1 [.int .i64 8, .int .i32 0] rfl SRC.out (by simp [Value.oneCell']) (by have := B5A.out.len; unfold maxLen; omega) (by have := B5A.out.len; omega) (by have := B5A.out.only.size; omega) ?_; intro v61 w61 ho61 ha61; refine unstop ?_)
          refine Stop.go ?_
          have B61 := Lib.hid (B5A.out.app (ys := [(8, 0)]) ho61 ha61.out rfl (rng_one (by omega)) (C := 51) (by omega))
          obtain ⟨x61, hx61⟩ : ∃ z, xs ++ [(8, 0)] = z := ⟨_, rfl⟩
          rw [hx61] at B61
          obtain ⟨E61, ec61, rfl⟩ := own_formS B61.out.row
          clear ho61 ha61 hx61 SRC B5 B5A
          have B62 := Lib.hid (B61.out.more (C := 52) (by omega))
          clear B61
          have D7 := Lib.hid ((D3.out.drawn B62.out.cur B62.out.only).alloc (.cells (dNames.map Value.string).toArray 9))
          have PK := Lib.hid (pick_any g w61.heap.size dNames (w61.alloc (.cells (dNames.map Value.string).toArray 9)) D7.out.cur (strs_new w61 9 dNames) (by have := D7.out.only.size; have := D7.out.glt; have := B62.out.only.size; have := B62.out.glt; have := D3.out.only.size; omega) (by simp) (by decide) (by decide))
          have B7 := Lib.hid (B62.out.alloc (.cells (dNames.map Value.string).toArray 9))
          clear B62
          go_wp2_with fail
          refine PK.out.mono ?_
          rintro e w8 ⟨nm, rfl, hnm, hc8, hg8⟩
          have HNM := Lib.hid (dNames_size nm hnm)
          have D8 := Lib.hid ((D7.out.drawn hc8 hg8).alloc (.cells #[.string nm, (.slice E61 x61.length ec61)] 60))
          have B8 := Lib.hid ((B7.out.drawn hc8 hg8).alloc (.cells #[.string nm, (.slice E61 x61.length ec61)] 60))
          have SRD := Lib.hid (src_def w8 (.string nm) (.slice E61 x61.length ec61))
          obtain ⟨ps, hps, hrow, hbod⟩ := D8.out.ex
          have HROW := Lib.hid hrow
          have HBOD := Lib.hid hbod
          have HPS := Lib.hid hps
          have hlo3 : w.heap.size ≤ w3.heap.size := D3.out.only.size
          clear hnm hc8 hg8 PK D7 B7 hps hrow hbod
          go_wp2_with (at_builtin; refine wpList_append_src rfl _ _ 24 rfl w.heap.size 60 j0 (.agg #[.string ⟨#[]⟩, .slice none 0 0]) 2 40 Tryz.underlying24 hj0 jz0 jz1 jz2 rfl (by decide) _ ds.length _ rfl (HROW.out) _ 1 [.string nm, (.slice E61 x61.length ec61)] rfl SRD.out (by simp [Value.oneCell']) (by unfold maxLen; omega) (by omega) (by have := D8.out.only.size; omega) ?_; intro v9 w9 ho9 ha9; refine unstop ?_)
          refine Stop.go ?_
          have D9 := Lib.hid (D8.out.push HPS.out HROW.out HBOD.out (B8.out.row.mono hlo3) ⟨by have := B8.out.len; omega, B8.out.rng⟩ HNM.out ho9 ha9.out)
          clear ho9 ha9 SRD D8 B8 HROW HBOD HPS D3
          go_wp2_with fail
          go_roundw
          case rel => exact ⟨ds.length + 1, v9, _, by go_num, rfl, by omega, by rw [List.length_append, List.length_singleton], D9⟩
          case measure => simp [intOf]; omega
    · go_wp2_with fail
      go_ret
      exact ⟨_, ds, rfl, DR.out, by omega, by omega⟩
end Go.Proofs.YtofikgjoiidhmaaGreatDoor
