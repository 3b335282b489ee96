/-
  Bodies are drawn.
-/
import Derived.Test.YtlkkobffgbjkpaaDrawOps
import Derived.Deep.Cut
namespace Go.Proofs.Ytlkkobffgbjkpaa
open Go.RowKit Go

/-- How long a drawn body may be. -/
def bndB : Nat → Nat | 0 => 5 | D + 1 => 4 * (4 + bndB D) + 1
/-- A body that is drawn so far: a row of the call's own, a cursor, and nothing else has changed. -/
structure BodyAt (g : Nat) (w : World) (B : Nat) (v : Value) (xs : List (Int × Int)) (wr : World) : Prop where
  len : xs.length ≤ B
  rng : RngO xs
  row : wr.ownsRow w.heap.size 75 2 v xs.length (slv xs)
  cur : CurAt wr g
  only : w.grownBy wr (some g)
  glt : g < w.heap.size
def DrewBody (g B : Nat) (w : World) (e : Ending) (w' : World) : Prop := ∃ v xs, e = .returned v ∧ BodyAt g w B v xs w'
section
variable {g B : Nat} {w wr w2 : World} {v : Value} {xs : List (Int × Int)}
theorem BodyAt.drawn (h : BodyAt g w B v xs wr) (hc : CurAt w2 g) (hg : wr.grownBy w2 (some g)) : BodyAt g w B v xs w2 :=
  ⟨h.len, h.rng, row_same h.row (fun k hk => hg.block k (World.ownsRow.lt h.row k hk).2 (fun e => by injection e with e; have := (World.ownsRow.lt h.row k hk).1; have := h.glt; omega)), hc, only_trans h.only hg, h.glt⟩
theorem BodyAt.alloc (h : BodyAt g w B v xs wr) (o : Obj) : BodyAt g w B v xs (wr.alloc o) := h.drawn (h.cur.grown (World.grownBy_alloc wr o none) (fun _ e => by cases e)) (only_alloc (World.grownBy.refl wr (some g)) o)
theorem BodyAt.app (h : BodyAt g w B v xs wr) {v9 : Value} {ys : List (Int × Int)} {m C : Nat} (hr : w2.ownsRow w.heap.size 75 2 v9 (xs.length + m) (slv xs ++ slv ys)) (ha : AppAlt wr w2 v v9 xs.length m) (hm : ys.length = m) (hy : RngO ys) (hC : B + m ≤ C) : BodyAt g w C v9 (xs ++ ys) w2 := by
  have hgr := ha.grown
  have hlo : ∀ k, v.ownBlock = some k → w.heap.size ≤ k := fun k hk => (World.ownsRow.lt h.row k hk).1
  refine ⟨by rw [List.length_append]; have := h.len; omega, fun o ho => ?_, by rw [List.length_append, slv_app, hm]; exact hr, h.cur.grown hgr (fun k hk => by have := hlo k hk; have := h.glt; omega), only_app h.only hgr hlo, h.glt⟩
  rcases List.mem_append.1 ho with h1 | h1
  · exact h.rng o h1
  · exact hy o h1
theorem BodyAt.more (h : BodyAt g w B v xs wr) {C : Nat} (hC : B ≤ C) : BodyAt g w C v xs wr := ⟨Nat.le_trans h.len hC, h.rng, h.row, h.cur, h.only, h.glt⟩
end
theorem rng_one {k z : Int} (h : -2147483648 ≤ z ∧ z ≤ 2147483647) : RngO [(k, z)] := fun o ho => by rw [List.mem_singleton.1 ho]; exact h
theorem rng_two {k z k2 z2 : Int} (h : -2147483648 ≤ z ∧ z ≤ 2147483647) (h2 : -2147483648 ≤ z2 ∧ z2 ≤ 2147483647) : RngO [(k, z), (k2, z2)] := fun o ho => by
  rcases List.mem_cons.1 ho with rfl | ho
  · exact h
  · rw [List.mem_singleton.1 ho]; exact h2
theorem src_four (w : World) (a b c d : Value) : SrcAt (w.alloc (.cells #[a, b, c, d] 75)) 2 (.slice (some ⟨w.heap.size, 0, none⟩) 2 2) 2 [a, b, c, d] := by
  refine ⟨_, _, rfl, rfl, fun h => by simp at h, fun q hq j x hj => ?_⟩
  obtain rfl : q = ⟨w.heap.size, 0, none⟩ := by injection hq with hq; exact hq.symm
  rw [addr_lit, cell_of_row _ w.heap.size (0 + j) #[a, b, c, d] 75 (0, 0) (heap_alloc_new w _), Nat.zero_add]
  simpa using hj
set_option maxRecDepth 100000 in
set_option maxHeartbeats 16000000 in
theorem body_any : ∀ (D : Nat), D ≤ 3 → ∀ (g : Nat) (n : Int), 0 ≤ n → n ≤ 1000 → ∀ (w : World), CurAt w g → Calls Try.prog 49 #[.pointer (some ⟨g, 0, none⟩), .int .i64 n, .int .i64 (D : Int)] w (DrewBody g (bndB D) w) := by
  intro D
  induction D with
  | zero =>
    intro hD g n hn0 hn1 w hc
    obtain ⟨i0, hi0, hz0, hz1, hz2⟩ := info_parts infoS
    have hgl := cur_lt hc
    have B0 := Lib.hid (show BodyAt g w 0 (.slice (some ⟨w.heap.size, 0, none⟩) 0 0) [] (w.alloc (.cells #[] 75)) from ⟨Nat.le_refl _, fun o ho => by simp at ho, own_emptyO w, hc.grown (World.grownBy_alloc w _ none) (fun _ h => by cases h), only_alloc (World.grownBy.refl w (some g)) _, hgl⟩)
    have HC0 := Lib.hid (below_any g 5 (by omega) (by omega) _ B0.out.cur)
    clear hc
    go_enter Try.func49, Try.ntmps49
    go_wp2_with fail
    refine HC0.out.mono ?_
    rintro e w1 ⟨x, rfl, ⟨hx0, hx1⟩, hc1, hg1⟩
    have B1 := Lib.hid ((B0.out.drawn hc1 hg1).more (C := 0 * (1)) (by omega))
    obtain ⟨k, rfl⟩ : ∃ k : Nat, x = (k : Int) := ⟨x.toNat, by omega⟩
    have hk4 : k ≤ 4 := by have : (k : Int) ≤ 4 := by simpa using hx1
                           omega
    clear hx0 hx1 hc1 hg1 B0 HC0
    go_wp2_with fail
    go_loopw [7, 9] (fun vo vi wr => ∃ (i : Nat) (u : Value) (xs : List (Int × Int)), vi = .int .i64 i ∧ vo = u ∧ i ≤ k ∧ Hid (BodyAt g w (i * (1)) u xs wr)) (fun _ vi _ => k - (intOf vi).toNat)
    case atStart => exact ⟨0, _, [], rfl, rfl, by omega, B1⟩
    case round =>
      obtain ⟨i, u, xs, rfl, rfl, hi, BR⟩ := hrel
      clear B1
      obtain ⟨E, ec, rfl⟩ := own_formS BR.out.row
      have hib : i * (1) ≤ 4 * (1) := Nat.mul_le_mul_right _ (by omega)
      have hCb : (1) ≤ 200 := by decide
      by_cases hp : i < k
      · have i1 : (i : Int) < (k : Int) := by omega
        have hsu : (i + 1) * (1) = i * (1) + (1) := Nat.succ_mul _ _
        have HP := Lib.hid (plain_any g n (by omega) hn1 _ BR.out.cur)
        go_wp2_with fail
        refine HP.out.mono ?_
        rintro e w2 ⟨kk, zz, rfl, hzr, hc2, hg2⟩
        have B2 := Lib.hid (BR.out.drawn hc2 hg2)
        clear hc2 hg2 HP BR
        have B2A := Lib.hid (B2.out.alloc (.cells #[.int .i64 kk, .int .i32 zz] 75))
        have SRC := Lib.hid (src_two w2 (.int .i64 kk) (.int .i32 zz))
        go_wp2_with (at_builtin; refine wpList_append_src rfl _ _ 24 rfl w.heap.size 75 i0 (.agg #[.int .i64 0, .int .i32 0]) 2 16 Try.underlying24 hi0 hz0 hz1 hz2 rfl (by decide) _ xs.length _ rfl (B2A.out.row) _ 1 [.int .i64 kk, .int .i32 zz] rfl SRC.out (by simp [Value.oneCell']) (by have := B2A.out.len; unfold maxLen; omega) (by have := B2A.out.len; omega) (by have := B2A.out.only.size; omega) ?_; intro v9 w9 ho9 ha9; refine unstop ?_)
        refine Stop.go ?_
        have B3 := Lib.hid (B2A.out.app (ys := [(kk, zz)]) ho9 ha9.out rfl (rng_one hzr) (C := i * (1) + 1) (by omega))
        obtain ⟨x3, hx3⟩ : ∃ z, xs ++ [(kk, zz)] = z := ⟨_, rfl⟩
        rw [hx3] at B3
        obtain ⟨E9, ec9, rfl⟩ := own_formS B3.out.row
        clear ho9 ha9 hx3 SRC B2 B2A
        go_wp2_with fail
        go_roundw
        case rel => exact ⟨i + 1, _, x3, by go_num, rfl, by omega, Lib.hid (B3.out.more (by rw [hsu]; omega))⟩
        case measure => simp [intOf]; omega
      · obtain rfl : i = k := by omega
        have hp2 : ¬ (i : Int) < (i : Int) := by omega
        have HO := Lib.hid (once_any g 4 (by omega) _ BR.out.cur)
        clear hp hi
        go_wp2_with fail
        refine HO.out.mono ?_
        rintro e w2 ⟨b, rfl, hc2, hg2⟩
        have B2 := Lib.hid (BR.out.drawn hc2 hg2)
        have hk44 : i * (1) ≤ 4 * (1) := Nat.mul_le_mul_right _ hk4
        clear hc2 hg2 HO BR
        cases b with
        | false =>
          go_wp2_with fail
          go_ret
          exact ⟨_, xs, rfl, B2.out.more (by show _ ≤ 4 * (1) + 1; omega)⟩
        | true =>
          have B2A := Lib.hid (B2.out.alloc (.cells #[.int .i64 8, .int .i32 0] 75))
          have SRC := Lib.hid (src_two w2 (.int .i64 8) (.int .i32 0))
          go_wp2_with (at_builtin; refine wpList_append_src rfl _ _ 24 rfl w.heap.size 75 i0 (.agg #[.int .i64 0, .int .i32 0]) 2 16 Try.underlying24 hi0 hz0 hz1 hz2 rfl (by decide) _ xs.length _ rfl (B2A.out.row) _ 1 [.int .i64 8, .int .i32 0] rfl SRC.out (by simp [Value.oneCell']) (by have := B2A.out.len; unfold maxLen; omega) (by have := B2A.out.len; omega) (by have := B2A.out.only.size; omega) ?_; intro v9 w9 ho9 ha9; refine unstop ?_)
          refine Stop.go ?_
          have B3 := Lib.hid (B2A.out.app (ys := [(8, 0)]) ho9 ha9.out rfl (rng_one (by decide)) (C := 4 * (1) + 1) (by omega))
          clear ho9 ha9 SRC
          go_wp2_with fail
          go_ret
          exact ⟨_, _, rfl, B3.out⟩
  | succ D ih =>
    intro hD g n hn0 hn1 w hc
    obtain ⟨i0, hi0, hz0, hz1, hz2⟩ := info_parts infoS
    have hgl := cur_lt hc
    have B0 := Lib.hid (show BodyAt g w 0 (.slice (some ⟨w.heap.size, 0, none⟩) 0 0) [] (w.alloc (.cells #[] 75)) from ⟨Nat.le_refl _, fun o ho => by simp at ho, own_emptyO w, hc.grown (World.grownBy_alloc w _ none) (fun _ h => by cases h), only_alloc (World.grownBy.refl w (some g)) _, hgl⟩)
    have HC0 := Lib.hid (below_any g 5 (by omega) (by omega) _ B0.out.cur)
    have HIH := Lib.hid (ih (by omega))
    have hbd : bndB D ≤ 165 := by have : D = 0 ∨ D = 1 ∨ D = 2 := by omega
                                  rcases this with rfl | rfl | rfl <;> decide
    clear ih
    clear hc
    go_enter Try.func49, Try.ntmps49
    go_wp2_with fail
    refine HC0.out.mono ?_
    rintro e w1 ⟨x, rfl, ⟨hx0, hx1⟩, hc1, hg1⟩
    have B1 := Lib.hid ((B0.out.drawn hc1 hg1).more (C := 0 * (4 + bndB D)) (by omega))
    obtain ⟨k, rfl⟩ : ∃ k : Nat, x = (k : Int) := ⟨x.toNat, by omega⟩
    have hk4 : k ≤ 4 := by have : (k : Int) ≤ 4 := by simpa using hx1
                           omega
    clear hx0 hx1 hc1 hg1 B0 HC0
    go_wp2_with fail
    go_loopw [7, 9] (fun vo vi wr => ∃ (i : Nat) (u : Value) (xs : List (Int × Int)), vi = .int .i64 i ∧ vo = u ∧ i ≤ k ∧ Hid (BodyAt g w (i * (4 + bndB D)) u xs wr)) (fun _ vi _ => k - (intOf vi).toNat)
    case atStart => exact ⟨0, _, [], rfl, rfl, by omega, B1⟩
    case round =>
      obtain ⟨i, u, xs, rfl, rfl, hi, BR⟩ := hrel
      clear B1
      obtain ⟨E, ec, rfl⟩ := own_formS BR.out.row
      have hib : i * (4 + bndB D) ≤ 4 * (4 + bndB D) := Nat.mul_le_mul_right _ (by omega)
      have hCb : (4 + bndB D) ≤ 200 := by omega
      by_cases hp : i < k
      · have i1 : (i : Int) < (k : Int) := by omega
        have hsu : (i + 1) * (4 + bndB D) = i * (4 + bndB D) + (4 + bndB D) := Nat.succ_mul _ _
        have HP := Lib.hid (plain_any g n (by omega) hn1 _ BR.out.cur)
        go_wp2_with fail
        refine HP.out.mono ?_
        rintro e w2 ⟨kk, zz, rfl, hzr, hc2, hg2⟩
        have B2 := Lib.hid (BR.out.drawn hc2 hg2)
        clear hc2 hg2 HP BR
        have B2A := Lib.hid (B2.out.alloc (.cells #[.int .i64 kk, .int .i32 zz] 75))
        have SRC := Lib.hid (src_two w2 (.int .i64 kk) (.int .i32 zz))
        go_wp2_with (at_builtin; refine wpList_append_src rfl _ _ 24 rfl w.heap.size 75 i0 (.agg #[.int .i64 0, .int .i32 0]) 2 16 Try.underlying24 hi0 hz0 hz1 hz2 rfl (by decide) _ xs.length _ rfl (B2A.out.row) _ 1 [.int .i64 kk, .int .i32 zz] rfl SRC.out (by simp [Value.oneCell']) (by have := B2A.out.len; unfold maxLen; omega) (by have := B2A.out.len; omega) (by have := B2A.out.only.size; omega) ?_; intro v9 w9 ho9 ha9; refine unstop ?_)
        refine Stop.go ?_
        have B3 := Lib.hid (B2A.out.app (ys := [(kk, zz)]) ho9 ha9.out rfl (rng_one hzr) (C := i * (4 + bndB D) + 1) (by omega))
        obtain ⟨x3, hx3⟩ : ∃ z, xs ++ [(kk, zz)] = z := ⟨_, rfl⟩
        rw [hx3] at B3
        obtain ⟨E9, ec9, rfl⟩ := own_formS B3.out.row
        clear ho9 ha9 hx3 SRC B2 B2A
        have HO3 := Lib.hid (once_any g 3 (by omega) w9 B3.out.cur)
        have dq : ¬ ((D : Int) + 1) ≤ 0 := by omega
        go_wp2_with fail
        refine HO3.out.mono ?_
        rintro e w4 ⟨b, rfl, hc4, hg4⟩
        have B4 := Lib.hid (B3.out.drawn hc4 hg4)
        clear hc4 hg4 HO3 B3
        cases b with
        | false =>
          go_wp2_with fail
          go_roundw
          case rel => exact ⟨i + 1, _, x3, by go_num, rfl, by omega, Lib.hid (B4.out.more (by rw [hsu]; omega))⟩
          case measure => simp [intOf]; omega
        | true =>
          have HBD := Lib.hid (HIH.out g n hn0 hn1 w4 B4.out.cur)
          have HMB : Hid (∀ q, (Value.slice E9 x3.length ec9).ownBlock = some q → q < w4.heap.size) := Lib.hid (fun q hq => (World.ownsRow.lt B4.out.row q hq).2)
          have HGW : Hid (g < w4.heap.size) := Lib.hid (cur_lt B4.out.cur)
          go_wp2_with fail
          refine HBD.out.mono ?_
          rintro e w5 ⟨v5, x5, rfl, h5⟩
          have HL5 := Lib.hid h5.len
          have HX5 := Lib.hid h5.rng
          have B5 := Lib.hid (B4.out.drawn h5.cur h5.only)
          have R5 := Lib.hid h5.row
          obtain ⟨U5, uc5, rfl⟩ := own_formS h5.row
          have HS := Lib.hid (below_any g 3 (by omega) (by omega) w5 B5.out.cur)
          clear h5 HBD B4
          go_wp2_with fail
          refine HS.out.mono ?_
          rintro e w6 ⟨sv, rfl, ⟨hs0, hs1⟩, hc6, hg6⟩
          have hs2 : sv ≤ 2 := by simpa using hs1
          have B6 := Lib.hid (B5.out.drawn hc6 hg6)
          have R6 := Lib.hid (row_same R5.out (fun q hq => hg6.block q (World.ownsRow.lt R5.out q hq).2 (fun e => by injection e with e; have h1 := (World.ownsRow.lt R5.out q hq).1; have h2 := HGW.out; omega)))
          clear hc6 hg6 HS B5 R5 hs1
          have hsv : sv = 0 ∨ sv = 1 ∨ sv = 2 := by omega
          clear hs0 hs2
          rcases hsv with rfl | rfl | rfl
          · have HY := Lib.hid (below_any g 4 (by omega) (by omega) w6 B6.out.cur)
            go_wp2_with fail
            refine HY.out.mono ?_
            rintro e w7 ⟨yv, rfl, ⟨hy0, hy1⟩, hc7, hg7⟩
            have hy2 : yv ≤ 3 := by simpa using hy1
            have wy : IntKind.i32.wrap yv = yv := IntWalk.i32_in _ (by omega)
            have B6b := Lib.hid (B6.out.drawn hc7 hg7)
            have R6b := Lib.hid (row_same R6.out (fun q hq => hg7.block q (World.ownsRow.lt R6.out q hq).2 (fun e => by injection e with e; have h1 := (World.ownsRow.lt R6.out q hq).1; have h2 := HGW.out; omega)))
            clear B6 R6 hc7 hg7 HY hy1
            have B6 := B6b
            have R6 := R6b
            clear B6b R6b
            have B6A := Lib.hid (B6.out.alloc (.cells #[.int .i64 0, .int .i32 yv, .int .i64 6, .int .i32 0] 75))
            have SRC := Lib.hid (src_four w7 (.int .i64 0) (.int .i32 yv) (.int .i64 6) (.int .i32 0))
            have R6A := Lib.hid (R6.out.alloc (.cells #[.int .i64 0, .int .i32 yv, .int .i64 6, .int .i32 0] 75))
            go_wp2_with (at_builtin; refine wpList_append_src rfl _ _ 24 rfl w.heap.size 75 i0 (.agg #[.int .i64 0, .int .i32 0]) 2 16 Try.underlying24 hi0 hz0 hz1 hz2 rfl (by decide) _ x3.length _ rfl (B6A.out.row) _ 2 [.int .i64 0, .int .i32 yv, .int .i64 6, .int .i32 0] rfl SRC.out (by simp [Value.oneCell']) (by have := B6A.out.len; unfold maxLen; omega) (by have := B6A.out.len; omega) (by have := B6A.out.only.size; omega) ?_; intro v11 w11 ho11 ha11; refine unstop ?_)
            refine Stop.go ?_
            have B7 := Lib.hid (B6A.out.app (ys := [(0, yv), (6, 0)]) ho11 ha11.out rfl (rng_two (by omega) (by decide)) (C := i * (4 + bndB D) + 1 + 2) (by omega))
            have R7 := Lib.hid (row_same R6A.out (fun q hq => ha11.out.grown.block q (World.ownsRow.lt R6A.out q hq).2 (fun e => by have h1 := (World.ownsRow.lt R6A.out q hq).1; have h2 := HMB.out q e.symm; omega)))
            obtain ⟨x7, hx7⟩ : ∃ z, x3 ++ [(0, yv), (6, 0)] = z := ⟨_, rfl⟩
            rw [hx7] at B7
            obtain ⟨E11, ec11, rfl⟩ := own_formS B7.out.row
            clear ho11 ha11 hx7 SRC B6 B6A R6 R6A HMB
            have SRK := Lib.hid (src_row R7.out)
            go_wp2_with (at_builtin; refine wpList_append_src rfl _ _ 24 rfl w.heap.size 75 i0 (.agg #[.int .i64 0, .int .i32 0]) 2 16 Try.underlying24 hi0 hz0 hz1 hz2 rfl (by decide) _ x7.length _ rfl (B7.out.row) _ x5.length (slv x5) rfl SRK.out (slv_ones _) (by have := B7.out.len; have := HL5.out; unfold maxLen; omega) (by have := B7.out.len; have := HL5.out; omega) (by have := B7.out.only.size; omega) ?_; intro v12 w12 ho12 ha12; refine unstop ?_)
            refine Stop.go ?_
            have B8 := Lib.hid (B7.out.app (ys := x5) ho12 ha12.out rfl HX5.out (C := i * (4 + bndB D) + 1 + 2 + bndB D) (by have := HL5.out; omega))
            obtain ⟨x8, hx8⟩ : ∃ z, x7 ++ x5 = z := ⟨_, rfl⟩
            rw [hx8] at B8
            obtain ⟨E12, ec12, rfl⟩ := own_formS B8.out.row
            clear ho12 ha12 hx8 SRK B7 R7
            have B8A := Lib.hid (B8.out.alloc (.cells #[.int .i64 7, .int .i32 0] 75))
            have SRC := Lib.hid (src_two w12 (.int .i64 7) (.int .i32 0))
            go_wp2_with (at_builtin; refine wpList_append_src rfl _ _ 24 rfl w.heap.size 75 i0 (.agg #[.int .i64 0, .int .i32 0]) 2 16 Try.underlying24 hi0 hz0 hz1 hz2 rfl (by decide) _ x8.length _ rfl (B8A.out.row) _ 1 [.int .i64 7, .int .i32 0] rfl SRC.out (by simp [Value.oneCell']) (by have := B8A.out.len; unfold maxLen; omega) (by have := B8A.out.len; omega) (by have := B8A.out.only.size; omega) ?_; intro v13 w13 ho13 ha13; refine unstop ?_)
            refine Stop.go ?_
            have B10 := Lib.hid (B8A.out.app (ys := [(7, 0)]) ho13 ha13.out rfl (rng_one (by decide)) (C := i * (4 + bndB D) + 1 + 2 + bndB D + 1) (by omega))
            obtain ⟨x10, hx10⟩ : ∃ z, x8 ++ [(7, 0)] = z := ⟨_, rfl⟩
            rw [hx10] at B10
            obtain ⟨E13, ec13, rfl⟩ := own_formS B10.out.row
            clear ho13 ha13 hx10 SRC B8 B8A HX5 HL5
            go_wp2_with fail
            go_roundw
            case rel => exact ⟨i + 1, _, x10, by go_num, rfl, by omega, Lib.hid (B10.out.more (by rw [hsu]; omega))⟩
            case measure => simp [intOf]; omega
          · have B6A := Lib.hid (B6.out.alloc (.cells #[.int .i64 3, .int .i32 0] 75))
            have SRC := Lib.hid (src_two w6 (.int .i64 3) (.int .i32 0))
            have R6A := Lib.hid (R6.out.alloc (.cells #[.int .i64 3, .int .i32 0] 75))
            go_wp2_with (at_builtin; refine wpList_append_src rfl _ _ 24 rfl w.heap.size 75 i0 (.agg #[.int .i64 0, .int .i32 0]) 2 16 Try.underlying24 hi0 hz0 hz1 hz2 rfl (by decide) _ x3.length _ rfl (B6A.out.row) _ 1 [.int .i64 3, .int .i32 0] rfl SRC.out (by simp [Value.oneCell']) (by have := B6A.out.len; unfold maxLen; omega) (by have := B6A.out.len; omega) (by have := B6A.out.only.size; omega) ?_; intro v11 w11 ho11 ha11; refine unstop ?_)
            refine Stop.go ?_
            have B7 := Lib.hid (B6A.out.app (ys := [(3, 0)]) ho11 ha11.out rfl (rng_one (by decide)) (C := i * (4 + bndB D) + 1 + 1) (by omega))
            have R7 := Lib.hid (row_same R6A.out (fun q hq => ha11.out.grown.block q (World.ownsRow.lt R6A.out q hq).2 (fun e => by have h1 := (World.ownsRow.lt R6A.out q hq).1; have h2 := HMB.out q e.symm; omega)))
            obtain ⟨x7, hx7⟩ : ∃ z, x3 ++ [(3, 0)] = z := ⟨_, rfl⟩
            rw [hx7] at B7
            obtain ⟨E11, ec11, rfl⟩ := own_formS B7.out.row
            clear ho11 ha11 hx7 SRC B6 B6A R6 R6A HMB
            have SRK := Lib.hid (src_row R7.out)
            go_wp2_with (at_builtin; refine wpList_append_src rfl _ _ 24 rfl w.heap.size 75 i0 (.agg #[.int .i64 0, .int .i32 0]) 2 16 Try.underlying24 hi0 hz0 hz1 hz2 rfl (by decide) _ x7.length _ rfl (B7.out.row) _ x5.length (slv x5) rfl SRK.out (slv_ones _) (by have := B7.out.len; have := HL5.out; unfold maxLen; omega) (by have := B7.out.len; have := HL5.out; omega) (by have := B7.out.only.size; omega) ?_; intro v12 w12 ho12 ha12; refine unstop ?_)
            refine Stop.go ?_
            have B8 := Lib.hid (B7.out.app (ys := x5) ho12 ha12.out rfl HX5.out (C := i * (4 + bndB D) + 1 + 1 + bndB D) (by have := HL5.out; omega))
            obtain ⟨x8, hx8⟩ : ∃ z, x7 ++ x5 = z := ⟨_, rfl⟩
            rw [hx8] at B8
            obtain ⟨E12, ec12, rfl⟩ := own_formS B8.out.row
            clear ho12 ha12 hx8 SRK B7 R7
            have B8A := Lib.hid (B8.out.alloc (.cells #[.int .i64 5, .int .i32 0] 75))
            have SRC := Lib.hid (src_two w12 (.int .i64 5) (.int .i32 0))
            go_wp2_with (at_builtin; refine wpList_append_src rfl _ _ 24 rfl w.heap.size 75 i0 (.agg #[.int .i64 0, .int .i32 0]) 2 16 Try.underlying24 hi0 hz0 hz1 hz2 rfl (by decide) _ x8.length _ rfl (B8A.out.row) _ 1 [.int .i64 5, .int .i32 0] rfl SRC.out (by simp [Value.oneCell']) (by have := B8A.out.len; unfold maxLen; omega) (by have := B8A.out.len; omega) (by have := B8A.out.only.size; omega) ?_; intro v13 w13 ho13 ha13; refine unstop ?_)
            refine Stop.go ?_
            have B10 := Lib.hid (B8A.out.app (ys := [(5, 0)]) ho13 ha13.out rfl (rng_one (by decide)) (C := i * (4 + bndB D) + 1 + 1 + bndB D + 1) (by omega))
            obtain ⟨x10, hx10⟩ : ∃ z, x8 ++ [(5, 0)] = z := ⟨_, rfl⟩
            rw [hx10] at B10
            obtain ⟨E13, ec13, rfl⟩ := own_formS B10.out.row
            clear ho13 ha13 hx10 SRC B8 B8A HX5 HL5
            go_wp2_with fail
            go_roundw
            case rel => exact ⟨i + 1, _, x10, by go_num, rfl, by omega, Lib.hid (B10.out.more (by rw [hsu]; omega))⟩
            case measure => simp [intOf]; omega
          · have B6A := Lib.hid (B6.out.alloc (.cells #[.int .i64 4, .int .i32 0] 75))
            have SRC := Lib.hid (src_two w6 (.int .i64 4) (.int .i32 0))
            have R6A := Lib.hid (R6.out.alloc (.cells #[.int .i64 4, .int .i32 0] 75))
            go_wp2_with (at_builtin; refine wpList_append_src rfl _ _ 24 rfl w.heap.size 75 i0 (.agg #[.int .i64 0, .int .i32 0]) 2 16 Try.underlying24 hi0 hz0 hz1 hz2 rfl (by decide) _ x3.length _ rfl (B6A.out.row) _ 1 [.int .i64 4, .int .i32 0] rfl SRC.out (by simp [Value.oneCell']) (by have := B6A.out.len; unfold maxLen; omega) (by have := B6A.out.len; omega) (by have := B6A.out.only.size; omega) ?_; intro v11 w11 ho11 ha11; refine unstop ?_)
            refine Stop.go ?_
            have B7 := Lib.hid (B6A.out.app (ys := [(4, 0)]) ho11 ha11.out rfl (rng_one (by decide)) (C := i * (4 + bndB D) + 1 + 1) (by omega))
            have R7 := Lib.hid (row_same R6A.out (fun q hq => ha11.out.grown.block q (World.ownsRow.lt R6A.out q hq).2 (fun e => by have h1 := (World.ownsRow.lt R6A.out q hq).1; have h2 := HMB.out q e.symm; omega)))
            obtain ⟨x7, hx7⟩ : ∃ z, x3 ++ [(4, 0)] = z := ⟨_, rfl⟩
            rw [hx7] at B7
            obtain ⟨E11, ec11, rfl⟩ := own_formS B7.out.row
            clear ho11 ha11 hx7 SRC B6 B6A R6 R6A HMB
            have SRK := Lib.hid (src_row R7.out)
            go_wp2_with (at_builtin; refine wpList_append_src rfl _ _ 24 rfl w.heap.size 75 i0 (.agg #[.int .i64 0, .int .i32 0]) 2 16 Try.underlying24 hi0 hz0 hz1 hz2 rfl (by decide) _ x7.length _ rfl (B7.out.row) _ x5.length (slv x5) rfl SRK.out (slv_ones _) (by have := B7.out.len; have := HL5.out; unfold maxLen; omega) (by have := B7.out.len; have := HL5.out; omega) (by have := B7.out.only.size; omega) ?_; intro v12 w12 ho12 ha12; refine unstop ?_)
            refine Stop.go ?_
            have B8 := Lib.hid (B7.out.app (ys := x5) ho12 ha12.out rfl HX5.out (C := i * (4 + bndB D) + 1 + 1 + bndB D) (by have := HL5.out; omega))
            obtain ⟨x8, hx8⟩ : ∃ z, x7 ++ x5 = z := ⟨_, rfl⟩
            rw [hx8] at B8
            obtain ⟨E12, ec12, rfl⟩ := own_formS B8.out.row
            clear ho12 ha12 hx8 SRK B7 R7
            have B8A := Lib.hid (B8.out.alloc (.cells #[.int .i64 5, .int .i32 0] 75))
            have SRC := Lib.hid (src_two w12 (.int .i64 5) (.int .i32 0))
            go_wp2_with (at_builtin; refine wpList_append_src rfl _ _ 24 rfl w.heap.size 75 i0 (.agg #[.int .i64 0, .int .i32 0]) 2 16 Try.underlying24 hi0 hz0 hz1 hz2 rfl (by decide) _ x8.length _ rfl (B8A.out.row) _ 1 [.int .i64 5, .int .i32 0] rfl SRC.out (by simp [Value.oneCell']) (by have := B8A.out.len; unfold maxLen; omega) (by have := B8A.out.len; omega) (by have := B8A.out.only.size; omega) ?_; intro v13 w13 ho13 ha13; refine unstop ?_)
            refine Stop.go ?_
            have B10 := Lib.hid (B8A.out.app (ys := [(5, 0)]) ho13 ha13.out rfl (rng_one (by decide)) (C := i * (4 + bndB D) + 1 + 1 + bndB D + 1) (by omega))
            obtain ⟨x10, hx10⟩ : ∃ z, x8 ++ [(5, 0)] = z := ⟨_, rfl⟩
            rw [hx10] at B10
            obtain ⟨E13, ec13, rfl⟩ := own_formS B10.out.row
            clear ho13 ha13 hx10 SRC B8 B8A HX5 HL5
            go_wp2_with fail
            go_roundw
            case rel => exact ⟨i + 1, _, x10, by go_num, rfl, by omega, Lib.hid (B10.out.more (by rw [hsu]; omega))⟩
            case measure => simp [intOf]; omega
      · obtain rfl : i = k := by omega
        have hp2 : ¬ (i : Int) < (i : Int) := by omega
        have HO := Lib.hid (once_any g 4 (by omega) _ BR.out.cur)
        clear hp hi
        go_wp2_with fail
        refine HO.out.mono ?_
        rintro e w2 ⟨b, rfl, hc2, hg2⟩
        have B2 := Lib.hid (BR.out.drawn hc2 hg2)
        have hk44 : i * (4 + bndB D) ≤ 4 * (4 + bndB D) := Nat.mul_le_mul_right _ hk4
        clear hc2 hg2 HO BR
        cases b with
        | false =>
          go_wp2_with fail
          go_ret
          exact ⟨_, xs, rfl, B2.out.more (by show _ ≤ 4 * (4 + bndB D) + 1; omega)⟩
        | true =>
          have B2A := Lib.hid (B2.out.alloc (.cells #[.int .i64 8, .int .i32 0] 75))
          have SRC := Lib.hid (src_two w2 (.int .i64 8) (.int .i32 0))
          go_wp2_with (at_builtin; refine wpList_append_src rfl _ _ 24 rfl w.heap.size 75 i0 (.agg #[.int .i64 0, .int .i32 0]) 2 16 Try.underlying24 hi0 hz0 hz1 hz2 rfl (by decide) _ xs.length _ rfl (B2A.out.row) _ 1 [.int .i64 8, .int .i32 0] rfl SRC.out (by simp [Value.oneCell']) (by have := B2A.out.len; unfold maxLen; omega) (by have := B2A.out.len; omega) (by have := B2A.out.only.size; omega) ?_; intro v9 w9 ho9 ha9; refine unstop ?_)
          refine Stop.go ?_
          have B3 := Lib.hid (B2A.out.app (ys := [(8, 0)]) ho9 ha9.out rfl (rng_one (by decide)) (C := 4 * (4 + bndB D) + 1) (by omega))
          clear ho9 ha9 SRC
          go_wp2_with fail
          go_ret
          exact ⟨_, _, rfl, B3.out⟩
end Go.Proofs.Ytlkkobffgbjkpaa
