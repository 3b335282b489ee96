/-
  Ops, bodies are drawn.
-/
import Derived.Test.YtlkkobffgbjkpaaDraws
import Derived.Test.YtlkkobffgbjkpaaFlatS
import Derived.IntWalk
namespace Go.Proofs.Ytlkkobffgbjkpaa
open Go.RowKit Go

/-- An op is drawn; only the cursor's block has changed. -/
def DrewOp (g : Nat) (w : World) (e : Ending) (w' : World) : Prop := ∃ k z : Int, e = .returned (.agg #[.int .i64 k, .int .i32 z]) ∧ (-2147483648 ≤ z ∧ z ≤ 2147483647) ∧ CurAt w' g ∧ w.grownBy w' (some g)
theorem op_done {w W : World} {g r : Nat} {k z : Int} (hk : Blk W r 75 #[.int .i64 0, .int .i32 0]) (hgl : g < r) (hr : w.heap.size ≤ r) (hc : CurAt W g) (hg : w.grownBy W (some g)) (W2 : World) (hW : W2 = (W.setCell ⟨r, 0, none⟩ (.int .i64 k)).setCell ⟨r, 1, none⟩ (.int .i32 z)) :
    Blk W2 r 75 #[.int .i64 k, .int .i32 z] ∧ CurAt W2 g ∧ w.grownBy W2 (some g) := by
  have b := (hk.put 0 (.int .i64 k)).put 1 (.int .i32 z)
  rw [← hW] at b
  have e : (#[Value.int .i64 0, Value.int .i32 0].setIfInBounds 0 (.int .i64 k)).setIfInBounds 1 (.int .i32 z) = #[.int .i64 k, .int .i32 z] := by simp
  rw [e] at b
  have s1 : W.grownBy (W.setCell ⟨r, 0, none⟩ (.int .i64 k)) (some r) := only_setCell (World.grownBy.refl W (some r)) (.inl rfl) _
  have s2 : W.grownBy W2 (some r) := by rw [hW]; exact only_setCell s1 (.inl rfl) _
  have t1 : w.grownBy (W.setCell ⟨r, 0, none⟩ (.int .i64 k)) (some g) := only_setCell hg (.inr hr) _
  have t2 : w.grownBy W2 (some g) := by rw [hW]; exact only_setCell t1 (.inr hr) _
  exact ⟨b, hc.grown s2 (fun k hk => by injection hk with hk; omega), t2⟩
set_option maxRecDepth 100000 in
set_option maxHeartbeats 4000000 in
theorem plain_any (g : Nat) (n : Int) (hn0 : -1 ≤ n) (hn1 : n ≤ 1000) (w : World) (hc : CurAt w g) : Calls Try.prog 101 #[.pointer (some ⟨g, 0, none⟩), .int .i64 n] w (DrewOp g w) := by
  have hgl := cur_lt hc
  have HC0 := Lib.hid (below_any g 7 (by omega) (by omega) _ (hc.grown (World.grownBy_alloc w (.cells #[.int .i64 0, .int .i32 0] 75) none) (fun _ h => by cases h)))
  have K0 := Lib.hid (Blk.new w 75 #[.int .i64 0, .int .i32 0])
  have G0 := Lib.hid (only_alloc (World.grownBy.refl w (some g)) (.cells #[.int .i64 0, .int .i32 0] 75))
  clear hc
  go_enter Try.func101, Try.ntmps101
  go_wp2_with fail
  refine HC0.out.mono ?_
  rintro e w1 ⟨x, rfl, ⟨hx0, hx1⟩, hc1, hg1⟩
  have K1 := Lib.hid (K0.out.grown hg1 (fun e => by injection e with e; omega))
  have G1 := Lib.hid (only_trans G0.out hg1)
  have HC1 := Lib.hid hc1
  have hx2 : x ≤ 6 := by simpa using hx1
  clear hc1 hg1 HC0 K0 G0 hx1
  by_cases h01 : (x == 0) = true ∨ ((x == 0) = false ∧ (x == 1) = true)
  · have HB := Lib.hid (below_any g 9 (by omega) (by omega) w1 HC1.out)
    rcases h01 with q0 | ⟨q0, q1⟩
    all_goals
      go_wp2_with fail
      refine HB.out.mono ?_
      rintro e w2 ⟨y, rfl, ⟨hy0, hy1⟩, hc2, hg2⟩
      have hy2 : y ≤ 8 := by simpa using hy1
      have K2 := K1.out.grown hg2 (fun e => by injection e with e; omega)
      have G2 := only_trans G1.out hg2
      have wy : IntKind.i32.wrap (y - 2) = y - 2 := IntWalk.i32_in _ (by omega)
      have c0 : w2.cell? ⟨w.heap.size, 0, none⟩ = some (.int .i64 0) := K2.cell 0
      have c1 : w2.cell? ⟨w.heap.size, 1, none⟩ = some (.int .i32 0) := K2.cell 1
      have ff := K2.frozen
      have HD := Lib.hid (op_done (k := 0) (z := y - 2) K2 hgl (Nat.le_refl _) hc2 G2 _ rfl)
      have lz : w.heap.size < w2.heap.size := K2.lt
      clear hy1 hc2 hg2 K2 G2
      go_wp2_with fail
      show bodyPost _ _ _ _ _ ((w2.setCell ⟨w.heap.size, 0, none⟩ (.int .i64 0)).setCell ⟨w.heap.size, 1, none⟩ (.int .i32 (y - 2)))
      obtain ⟨d0, d1, d2⟩ := HD.out
      generalize ((w2.setCell ⟨w.heap.size, 0, none⟩ (.int .i64 0)).setCell ⟨w.heap.size, 1, none⟩ (.int .i32 (y - 2))) = W at d0 d1 d2 ⊢
      have z0 : W.cell? ⟨w.heap.size, 0, none⟩ = some (.int .i64 0) := d0.cell 0
      have z1 : W.cell? ⟨w.heap.size, 1, none⟩ = some (.int .i32 (y - 2)) := d0.cell 1
      exact bodyPost_ret (v := .agg #[.int .i64 0, .int .i32 (y - 2)]) (by simp [results, Try.results101, z0, z1, go_sem]) rfl ⟨0, y - 2, rfl, by omega, d1, d2⟩
  · have hx3 : (x == 0) = false ∧ (x == 1) = false := by simp only [beq_iff_eq, beq_eq_false_iff_ne] at *; omega
    obtain ⟨q0, q1⟩ := hx3
    by_cases h2 : (x == 2) = true ∧ 0 < n
    · obtain ⟨q2, q3⟩ := h2
      have HB := Lib.hid (below_any g n (by omega) (by omega) w1 HC1.out)
      clear h01
      go_wp2_with fail
      refine HB.out.mono ?_
      rintro e w2 ⟨y, rfl, ⟨hy0, hy1⟩, hc2, hg2⟩
      rw [if_neg (by omega)] at hy1
      have wy : IntKind.i32.wrap y = y := IntWalk.i32_in _ (by omega)
      have K2 := K1.out.grown hg2 (fun e => by injection e with e; omega)
      have G2 := only_trans G1.out hg2
      have c0 : w2.cell? ⟨w.heap.size, 0, none⟩ = some (.int .i64 0) := K2.cell 0
      have c1 : w2.cell? ⟨w.heap.size, 1, none⟩ = some (.int .i32 0) := K2.cell 1
      have ff := K2.frozen
      have HD := Lib.hid (op_done (k := 2) (z := y) K2 hgl (Nat.le_refl _) hc2 G2 _ rfl)
      have lz : w.heap.size < w2.heap.size := K2.lt
      clear hc2 hg2 K2 G2
      go_wp2_with fail
      show bodyPost _ _ _ _ _ ((w2.setCell ⟨w.heap.size, 0, none⟩ (.int .i64 2)).setCell ⟨w.heap.size, 1, none⟩ (.int .i32 y))
      obtain ⟨d0, d1, d2⟩ := HD.out
      generalize ((w2.setCell ⟨w.heap.size, 0, none⟩ (.int .i64 2)).setCell ⟨w.heap.size, 1, none⟩ (.int .i32 y)) = W at d0 d1 d2 ⊢
      have z0 : W.cell? ⟨w.heap.size, 0, none⟩ = some (.int .i64 2) := d0.cell 0
      have z1 : W.cell? ⟨w.heap.size, 1, none⟩ = some (.int .i32 y) := d0.cell 1
      exact bodyPost_ret (v := .agg #[.int .i64 2, .int .i32 y]) (by simp [results, Try.results101, z0, z1, go_sem]) rfl ⟨2, y, rfl, by omega, d1, d2⟩
    · have PK := Lib.hid (pickint_any g w1.heap.size [0, 0, 1, 2, 3, 4, 5, 5, 6, 7, 8, 9, 10, 11, 12, 13, 14, 15, 16, 17, 18, 19, 20, 21, 22, 22, 23] (w1.alloc (.cells (([0, 0, 1, 2, 3, 4, 5, 5, 6, 7, 8, 9, 10, 11, 12, 13, 14, 15, 16, 17, 18, 19, 20, 21, 22, 22, 23] : List Int).map (Value.int .i64)).toArray 3)) (HC1.out.grown (World.grownBy_alloc w1 _ none) (fun _ h => by cases h)) (ints_new w1 3 _) (by have := K1.out.lt; omega) (by simp) (by decide) (by decide))
      have GA := Lib.hid (World.grownBy_alloc w1 (.cells (([0, 0, 1, 2, 3, 4, 5, 5, 6, 7, 8, 9, 10, 11, 12, 13, 14, 15, 16, 17, 18, 19, 20, 21, 22, 22, 23] : List Int).map (Value.int .i64)).toArray 3) none)
      have q23 : (x == 2) = false ∨ ((x == 2) = true ∧ ¬ 0 < n) := by
        cases hq : (x == 2) with
        | false => exact .inl rfl
        | true => exact .inr ⟨rfl, fun h => h2 ⟨hq, h⟩⟩
      clear h01 h2
      rcases q23 with q2 | ⟨q2, q3⟩
      all_goals
        go_wp2_with fail
        refine PK.out.mono ?_
        rintro e w2 ⟨y, rfl, hy, hc2, hg2⟩
        have hyr : 0 ≤ y ∧ y ≤ 23 := by
          simp only [List.mem_cons, List.not_mem_nil, or_false] at hy
          omega
        have hg2 : w1.grownBy w2 (some g) := only_trans (only_alloc (World.grownBy.refl w1 (some g)) _) hg2
        have wy : IntKind.i32.wrap y = y := IntWalk.i32_in _ (by omega)
        clear hy
        have K2 := K1.out.grown hg2 (fun e => by injection e with e; omega)
        have G2 := only_trans G1.out hg2
        have c0 : w2.cell? ⟨w.heap.size, 0, none⟩ = some (.int .i64 0) := K2.cell 0
        have c1 : w2.cell? ⟨w.heap.size, 1, none⟩ = some (.int .i32 0) := K2.cell 1
        have ff := K2.frozen
        have HD := Lib.hid (op_done (k := 1) (z := y) K2 hgl (Nat.le_refl _) hc2 G2 _ rfl)
        have lz : w.heap.size < w2.heap.size := K2.lt
        clear hc2 hg2 K2 G2
        go_wp2_with fail
        show bodyPost _ _ _ _ _ ((w2.setCell ⟨w.heap.size, 0, none⟩ (.int .i64 1)).setCell ⟨w.heap.size, 1, none⟩ (.int .i32 y))
        obtain ⟨d0, d1, d2⟩ := HD.out
        generalize ((w2.setCell ⟨w.heap.size, 0, none⟩ (.int .i64 1)).setCell ⟨w.heap.size, 1, none⟩ (.int .i32 y)) = W at d0 d1 d2 ⊢
        have z0 : W.cell? ⟨w.heap.size, 0, none⟩ = some (.int .i64 1) := d0.cell 0
        have z1 : W.cell? ⟨w.heap.size, 1, none⟩ = some (.int .i32 y) := d0.cell 1
        exact bodyPost_ret (v := .agg #[.int .i64 1, .int .i32 y]) (by simp [results, Try.results101, z0, z1, go_sem]) rfl ⟨1, y, rfl, by omega, d1, d2⟩
end Go.Proofs.Ytlkkobffgbjkpaa
