/-
  Bodies, without shape sometimes, are drawn.
-/
import Derived.Test.YtlkkobffgbjkpaaDrawBody
namespace Go.Proofs.Ytlkkobffgbjkpaa
open Go.RowKit Go

def lenV : Value → Nat | .slice _ n _ => n | _ => 0
theorem BodyAt.tight {g B : Nat} {w wr : World} {v : Value} {xs : List (Int × Int)} (h : BodyAt g w B v xs wr) : BodyAt g w xs.length v xs wr := ⟨Nat.le_refl _, h.rng, h.row, h.cur, h.only, h.glt⟩
theorem BodyAt.set {g B q c : Nat} {w wr W2 : World} {xs : List (Int × Int)} (h : BodyAt g w B (.slice (some ⟨q, 0, none⟩) xs.length c) xs wr) {i : Nat} (hi : i < xs.length) {k z : Int} (hz : -2147483648 ≤ z ∧ z ≤ 2147483647) (hW : W2 = (wr.setCell ⟨q, i * 2, none⟩ (.int .i64 k)).setCell ⟨q, i * 2 + 1, none⟩ (.int .i32 z)) :
    BodyAt g w B (.slice (some ⟨q, 0, none⟩) xs.length c) (xs.set i (k, z)) W2 := by
  have s1 := h.row.stored (i * 2) (.int .i64 k)
  have s2 := s1.1.stored (i * 2 + 1) (.int .i32 z)
  have hs := s2.1
  rw [slv_set hi (k, z)] at hs
  have hg : wr.grownBy W2 (some q) := by rw [hW]; exact only_trans s1.2 s2.2
  rw [← hW] at hs
  have hq := (World.ownsRow.lt h.row q (by simp [Value.ownBlock])).1
  have hgl := h.glt
  refine ⟨by rw [List.length_set]; exact h.len, fun o ho => ?_, by rw [List.length_set]; exact hs, h.cur.grown hg (fun k hk => by injection hk with hk; omega), only_app h.only hg (fun k hk => by injection hk with hk; omega), hgl⟩
  rcases List.mem_or_eq_of_mem_set ho with h1 | h1
  · exact h.rng o h1
  · rw [h1]; exact hz
set_option maxRecDepth 100000 in
set_option maxHeartbeats 8000000 in
theorem any_any (g : Nat) (w : World) (hc : CurAt w g) : Calls Try.prog 42 #[.pointer (some ⟨g, 0, none⟩)] w (DrewBody g 700 w) := by
  obtain ⟨i0, hi0, hz0, hz1, hz2⟩ := info_parts infoS
  have HB := Lib.hid (body_any 3 (by omega) g 3 (by omega) (by omega) w hc)
  clear hc
  go_enter Try.func42, Try.ntmps42
  go_wp2_with fail
  refine HB.out.mono ?_
  rintro e w1 ⟨v1, xs, rfl, h1⟩
  have B1 := Lib.hid (show BodyAt g w 677 v1 xs w1 from h1)
  obtain ⟨E, ec, rfl⟩ := own_formS h1.row
  have HS := Lib.hid (below_any g 8 (by omega) (by omega) w1 h1.cur)
  have hgl := h1.glt
  clear h1 HB
  go_wp2_with fail
  refine HS.out.mono ?_
  rintro e w2 ⟨s, rfl, ⟨hs0, hs1⟩, hc2, hg2⟩
  have B2 := Lib.hid (B1.out.drawn hc2 hg2)
  have hs2 : s ≤ 7 := by simpa using hs1
  have hlen := B2.out.len
  clear hc2 hg2 HS B1 hs1
  by_cases h0 : s = 0
  · subst h0
    have HK := Lib.hid (below_any g 11 (by omega) (by omega) w2 B2.out.cur)
    go_wp2_with fail
    refine HK.out.mono ?_
    rintro e w3 ⟨x, rfl, ⟨hx0, hx1⟩, hc3, hg3⟩
    have hx2 : x ≤ 10 := by simpa using hx1
    have B3 := Lib.hid (B2.out.drawn hc3 hg3)
    clear hc3 hg3 HK B2 hx1
    have HK := Lib.hid (below_any g 3 (by omega) (by omega) w3 B3.out.cur)
    go_wp2_with fail
    refine HK.out.mono ?_
    rintro e w4 ⟨y, rfl, ⟨hy0, hy1⟩, hc4, hg4⟩
    have hy2 : y ≤ 2 := by simpa using hy1
    have wy : IntKind.i32.wrap y = y := IntWalk.i32_in _ (by omega)
    have wx : IntKind.i64.wrap (x - 1) = x - 1 := IntWalk.i64_in _ (by omega)
    have B4 := Lib.hid ((B3.out.drawn hc4 hg4).alloc (.cells #[.int .i64 (x - 1), .int .i32 y] 75))
    have SRC := Lib.hid (src_two w4 (.int .i64 (x - 1)) (.int .i32 y))
    clear hc4 hg4 HK B3 hy1
    go_wp2_with (at_builtin; refine wpList_append_src rfl _ _ 24 rfl w.heap.size 75 i0 (.agg #[.int .i64 0, .int .i32 0]) 2 16 Try.underlying24 hi0 hz0 hz1 hz2 rfl (by decide) _ xs.length _ rfl (B4.out.row) _ 1 [.int .i64 (x - 1), .int .i32 y] rfl SRC.out (by simp [Value.oneCell']) (by unfold maxLen; omega) (by omega) (by have := B4.out.only.size; omega) ?_; intro v9 w9 ho9 ha9; refine unstop ?_)
    refine Stop.go ?_
    have B9 := Lib.hid (B4.out.app (ys := [(x - 1, y)]) ho9 ha9.out rfl (rng_one (by omega)) (C := 700) (by omega))
    clear ho9 ha9 SRC B4
    go_wp2_with fail
    go_ret
    exact ⟨_, _, rfl, B9.out⟩
  by_cases h1 : s = 1
  · subst h1
    by_cases hn : xs.length = 0
    · have hn0 : ¬ (0 : Int) < (xs.length : Int) := by omega
      clear hn
      go_wp2_with fail
      go_ret
      exact ⟨_, xs, rfl, B2.out.more (by omega)⟩
    · have hn0 : (0 : Int) < (xs.length : Int) := by omega
      obtain ⟨q, rfl, hqc⟩ : ∃ q, E = some ⟨q, 0, none⟩ ∧ xs.length ≤ ec := by
        rcases B2.out.row.2 with ⟨-, h⟩ | ⟨q, cp, cur, e, hb, hg, hnc, -⟩
        · omega
        · injection e with e1 e2 e3
          exact ⟨q, e1, by omega⟩
      have HK := Lib.hid (below_any g (xs.length : Int) (by omega) (by omega) w2 B2.out.cur)
      clear hn
      go_wp2_with fail
      refine HK.out.mono ?_
      rintro e w3 ⟨p, rfl, ⟨hp0, hp1⟩, hc3, hg3⟩
      rw [if_neg (by omega)] at hp1
      obtain ⟨j, rfl⟩ : ∃ j : Nat, p = (j : Int) := ⟨p.toNat, by omega⟩
      have hj : j < xs.length := by omega
      have B3 := Lib.hid (B2.out.drawn hc3 hg3)
      clear hc3 hg3 HK B2 hp1
      have HK := Lib.hid (below_any g 11 (by omega) (by omega) w3 B3.out.cur)
      go_wp2_with fail
      refine HK.out.mono ?_
      rintro e w4 ⟨x, rfl, ⟨hx0, hx1⟩, hc4, hg4⟩
      have hx2 : x ≤ 10 := by simpa using hx1
      have B4 := Lib.hid (B3.out.drawn hc4 hg4)
      clear hc4 hg4 HK B3 hx1
      have B4A := Lib.hid (B4.out.alloc (.cells (([0, 23, 24, -1] : List Int).map (Value.int .i64)).toArray 3))
      have PK := Lib.hid (pickint_any g w4.heap.size [0, 23, 24, -1] (w4.alloc (.cells (([0, 23, 24, -1] : List Int).map (Value.int .i64)).toArray 3)) B4A.out.cur (ints_new w4 3 _) (by have := B4.out.only.size; omega) (by simp) (by decide) (by decide))
      go_wp2_with fail
      refine PK.out.mono ?_
      rintro e w5 ⟨y, rfl, hy, hc5, hg5⟩
      have hyr : -1 ≤ y ∧ y ≤ 24 := by
        simp only [List.mem_cons, List.not_mem_nil, or_false] at hy
        omega
      have B5 := Lib.hid (B4A.out.drawn hc5 hg5)
      have wy : IntKind.i32.wrap y = y := IntWalk.i32_in _ (by omega)
      have wx : IntKind.i64.wrap (x - 1) = x - 1 := IntWalk.i64_in _ (by omega)
      have i1 : (0 : Int) ≤ (j : Int) := by omega
      have i2 : (j : Int) < (xs.length : Int) := by omega
      obtain ⟨u0, d0⟩ : ∃ u, w5.cell? ⟨q, j * 2, none⟩ = some u := ⟨_, (B5.out.row.cellAt (j * 2) (by omega)).trans (slv_get0 hj)⟩
      obtain ⟨u1, d1⟩ : ∃ u, w5.cell? ⟨q, j * 2 + 1, none⟩ = some u := ⟨_, (B5.out.row.cellAt (j * 2 + 1) (by omega)).trans (slv_get1 hj)⟩
      have f0 := B5.out.row.frozenAt (j * 2)
      have f1 := B5.out.row.frozenAt (j * 2 + 1)
      have B6 := Lib.hid (B5.out.set hj (k := x - 1) (z := y) (by omega) rfl)
      clear hy hc5 hg5 PK B4 B4A B5 hp0
      go_wp2_with fail
      go_ret
      exact ⟨_, _, rfl, B6.out.more (by omega)⟩
  by_cases h2 : s = 2
  · subst h2
    clear h0 h1 hs0 hs2
    go_wp2_with fail
    go_loopw [3] (fun vo wr => ∃ (u : Value) (ys : List (Int × Int)), vo = u ∧ Hid (BodyAt g w 677 u ys wr)) (fun vo _ => 62 - lenV vo)
    case atStart => exact ⟨_, xs, rfl, B2⟩
    case round =>
      obtain ⟨u, ys, rfl, BR⟩ := hrel
      clear B2
      obtain ⟨F, fc, rfl⟩ := own_formS BR.out.row
      have hyl := BR.out.len
      have HK := Lib.hid (below_any g 4 (by omega) (by omega) _ BR.out.cur)
      go_wp2_with fail
      refine HK.out.mono ?_
      rintro e w3 ⟨x, rfl, ⟨hx0, hx1⟩, hc3, hg3⟩
      have hx2 : x ≤ 3 := by simpa using hx1
      have B3 := Lib.hid (BR.out.drawn hc3 hg3)
      clear hc3 hg3 HK BR hx1
      have wx : IntKind.i64.wrap (58 + x) = 58 + x := IntWalk.i64_in _ (by omega)
      by_cases hp : (ys.length : Int) < 58 + x
      · have B4 := Lib.hid (B3.out.tight.alloc (.cells #[.int .i64 0, .int .i32 1] 75))
        have SRC := Lib.hid (src_two w3 (.int .i64 0) (.int .i32 1))
        have hy60 : ys.length ≤ 60 := by omega
        clear B3
        go_wp2_with (at_builtin; refine wpList_append_src rfl _ _ 24 rfl w.heap.size 75 i0 (.agg #[.int .i64 0, .int .i32 0]) 2 16 Try.underlying24 hi0 hz0 hz1 hz2 rfl (by decide) _ ys.length _ rfl (B4.out.row) _ 1 [.int .i64 0, .int .i32 1] rfl SRC.out (by simp [Value.oneCell']) (by unfold maxLen; omega) (by omega) (by have := B4.out.only.size; omega) ?_; intro v9 w9 ho9 ha9; refine unstop ?_)
        refine Stop.go ?_
        have B9 := Lib.hid (B4.out.app (ys := [(0, 1)]) ho9 ha9.out rfl (rng_one (by decide)) (C := 677) (by omega))
        obtain ⟨E9, ec9, rfl⟩ := own_formS ho9
        clear ho9 ha9 SRC B4
        go_wp2_with fail
        go_roundw
        case rel => exact ⟨_, _, rfl, B9⟩
        case measure => simp [lenV]; omega
      · go_wp2_with fail
        go_ret
        exact ⟨_, ys, rfl, B3.out.more (by omega)⟩
  · have q0 : (s == 0) = false := by simpa using h0
    have q1 : (s == 1) = false := by simpa using h1
    have q2 : (s == 2) = false := by simpa using h2
    clear h0 h1 h2
    go_wp2_with fail
    go_ret
    exact ⟨_, xs, rfl, B2.out.more (by omega)⟩
end Go.Proofs.Ytlkkobffgbjkpaa
