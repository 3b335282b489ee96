/-
  (*bench).word: the words, one by one.
  (*bench).word: the words, one by one.
  (*bench).word: the words, one by one.
-/
import Derived.Test.YtdiaiflleiebfaaGreatDoorDO20
import Derived.Test.YtdiaiflleiebfaaGreatDoorDO14
import Derived.Laws.EntriesVeiled
namespace Go.Proofs.YtdiaiflleiebfaaGreatDoor
open Go.RowKit Go

theorem BenchEnd.back {w W w' : World} {g lo hi : Nat} {d r m c v o i : Value} {S : S8} {res : Int ⊕ S8} {e : Ending} (hb : Below w.heap.size w W) (h : BenchEnd W g lo hi d r m c v o i S res e w') : BenchEnd w g lo hi d r m c v o i S res e w' := ⟨(Chg.of_below hb).trans h.1, h.2⟩
set_option maxRecDepth 100000 in
set_option maxHeartbeats 2000000 in
theorem word_do_0 (d r m c v o i : Value) (S : S8) (g lo hi : Nat) (w : World) (res : Int ⊕ S8) (hf : 1 ≤ S.data.length) (ho : OwnSt w lo hi d r m c v o i S) (hB : Blk w g 152 #[d, r, .int .i32 S.a, m, c, v, o, i, .int .i64 S.fault, .int .i64 S.fuel])
    (HF : ∀ W, Below w.heap.size w W → Calls Tryz.prog 114 #[.pointer (some ⟨g, 0, none⟩)] W (BenchEnd W g lo hi d r m c v o i S res)) :
    Calls Tryz.prog 98 #[.pointer (some ⟨g, 0, none⟩), .int .i64 ((0 : Nat) : Int)] w (BenchEnd w g lo hi d r m c v o i S res) := by
  have HB := Lib.hid (fun W => isbuiltin_any 0 W)
  rw [inB_true (by decide) (by decide)] at HB
  have hix : ∀ W, (Instr.index 82 (.agg primCells) (.int .i64 0)).run Tryz.prog W = .ok (.agg #[.string ⟨#[100, 117, 112]⟩, .int .i64 1, .func (.func 114) #[] #[]]) W := fun W => prim_index_0 W
  obtain ⟨D, dc, rfl⟩ := own_form ho.d
  have KB := Lib.hid hB
  have HFF := Lib.hid HF
  obtain ⟨n, hn⟩ : ∃ n, S.data.length = n := ⟨_, rfl⟩
  have HN := Lib.hid hn
  have g1 : ¬ (n : Int) < 1 := by omega
  clear ho hB hf hn HF
  go_enter Tryz.func98, Tryz.ntmps98
  go_wp2_with fail
  refine (HB.out _).mono ?_
  rintro e w' ⟨rfl, rfl⟩
  go_wp2_with fail
  refine (builtins_any _).mono ?_
  rintro e w1 ⟨rfl, hb⟩
  have HBB := Lib.hid hb
  have kb := KB.out.below hb KB.out.lt
  rw [HN.out] at kb
  obtain ⟨p0, p1, p2, p3, p4, p5, p6, p7, p8, p9⟩ := st_cells kb
  have lg : g < w1.heap.size := kb.lt
  clear hb kb
  go_wp2_with fail
  go_quiet (fail)
  go_wp2_with fail
  have hbW := HBB.out.trans (below_drewN ((below_alloc w1 (.cells #[.string ⟨#[100, 117, 112]⟩, .int .i64 1, .func (.func 114) #[] #[]] 81)).mono HBB.out.size) nq)
  refine (HFF.out _ hbW).mono ?_
  intro e w9 hE
  obtain ⟨u, rfl⟩ := hE.ret
  have HE := Lib.hid (BenchEnd.back hbW hE)
  clear hE
  go_wp2_with fail
  go_ret
  exact HE.out
set_option maxRecDepth 100000 in
set_option maxHeartbeats 2000000 in
theorem word_do_1 (d r m c v o i : Value) (S : S8) (g lo hi : Nat) (w : World) (res : Int ⊕ S8) (hf : 1 ≤ S.data.length) (ho : OwnSt w lo hi d r m c v o i S) (hB : Blk w g 152 #[d, r, .int .i32 S.a, m, c, v, o, i, .int .i64 S.fault, .int .i64 S.fuel])
    (HF : ∀ W, Below w.heap.size w W → Calls Tryz.prog 115 #[.pointer (some ⟨g, 0, none⟩)] W (BenchEnd W g lo hi d r m c v o i S res)) :
    Calls Tryz.prog 98 #[.pointer (some ⟨g, 0, none⟩), .int .i64 ((1 : Nat) : Int)] w (BenchEnd w g lo hi d r m c v o i S res) := by
  have HB := Lib.hid (fun W => isbuiltin_any 1 W)
  rw [inB_true (by decide) (by decide)] at HB
  have hix : ∀ W, (Instr.index 82 (.agg primCells) (.int .i64 1)).run Tryz.prog W = .ok (.agg #[.string ⟨#[100, 114, 111, 112]⟩, .int .i64 1, .func (.func 115) #[] #[]]) W := fun W => prim_index_1 W
  obtain ⟨D, dc, rfl⟩ := own_form ho.d
  have KB := Lib.hid hB
  have HFF := Lib.hid HF
  obtain ⟨n, hn⟩ : ∃ n, S.data.length = n := ⟨_, rfl⟩
  have HN := Lib.hid hn
  have g1 : ¬ (n : Int) < 1 := by omega
  clear ho hB hf hn HF
  go_enter Tryz.func98, Tryz.ntmps98
  go_wp2_with fail
  refine (HB.out _).mono ?_
  rintro e w' ⟨rfl, rfl⟩
  go_wp2_with fail
  refine (builtins_any _).mono ?_
  rintro e w1 ⟨rfl, hb⟩
  have HBB := Lib.hid hb
  have kb := KB.out.below hb KB.out.lt
  rw [HN.out] at kb
  obtain ⟨p0, p1, p2, p3, p4, p5, p6, p7, p8, p9⟩ := st_cells kb
  have lg : g < w1.heap.size := kb.lt
  clear hb kb
  go_wp2_with fail
  go_quiet (fail)
  go_wp2_with fail
  have hbW := HBB.out.trans (below_drewN ((below_alloc w1 (.cells #[.string ⟨#[100, 114, 111, 112]⟩, .int .i64 1, .func (.func 115) #[] #[]] 81)).mono HBB.out.size) nq)
  refine (HFF.out _ hbW).mono ?_
  intro e w9 hE
  obtain ⟨u, rfl⟩ := hE.ret
  have HE := Lib.hid (BenchEnd.back hbW hE)
  clear hE
  go_wp2_with fail
  go_ret
  exact HE.out
set_option maxRecDepth 100000 in
set_option maxHeartbeats 2000000 in
theorem word_do_2 (d r m c v o i : Value) (S : S8) (g lo hi : Nat) (w : World) (res : Int ⊕ S8) (hf : 2 ≤ S.data.length) (ho : OwnSt w lo hi d r m c v o i S) (hB : Blk w g 152 #[d, r, .int .i32 S.a, m, c, v, o, i, .int .i64 S.fault, .int .i64 S.fuel])
    (HF : ∀ W, Below w.heap.size w W → Calls Tryz.prog 116 #[.pointer (some ⟨g, 0, none⟩)] W (BenchEnd W g lo hi d r m c v o i S res)) :
    Calls Tryz.prog 98 #[.pointer (some ⟨g, 0, none⟩), .int .i64 ((2 : Nat) : Int)] w (BenchEnd w g lo hi d r m c v o i S res) := by
  have HB := Lib.hid (fun W => isbuiltin_any 2 W)
  rw [inB_true (by decide) (by decide)] at HB
  have hix : ∀ W, (Instr.index 82 (.agg primCells) (.int .i64 2)).run Tryz.prog W = .ok (.agg #[.string ⟨#[111, 118, 101, 114]⟩, .int .i64 2, .func (.func 116) #[] #[]]) W := fun W => prim_index_2 W
  obtain ⟨D, dc, rfl⟩ := own_form ho.d
  have KB := Lib.hid hB
  have HFF := Lib.hid HF
  obtain ⟨n, hn⟩ : ∃ n, S.data.length = n := ⟨_, rfl⟩
  have HN := Lib.hid hn
  have g1 : ¬ (n : Int) < 2 := by omega
  clear ho hB hf hn HF
  go_enter Tryz.func98, Tryz.ntmps98
  go_wp2_with fail
  refine (HB.out _).mono ?_
  rintro e w' ⟨rfl, rfl⟩
  go_wp2_with fail
  refine (builtins_any _).mono ?_
  rintro e w1 ⟨rfl, hb⟩
  have HBB := Lib.hid hb
  have kb := KB.out.below hb KB.out.lt
  rw [HN.out] at kb
  obtain ⟨p0, p1, p2, p3, p4, p5, p6, p7, p8, p9⟩ := st_cells kb
  have lg : g < w1.heap.size := kb.lt
  clear hb kb
  go_wp2_with fail
  go_quiet (fail)
  go_wp2_with fail
  have hbW := HBB.out.trans (below_drewN ((below_alloc w1 (.cells #[.string ⟨#[111, 118, 101, 114]⟩, .int .i64 2, .func (.func 116) #[] #[]] 81)).mono HBB.out.size) nq)
  refine (HFF.out _ hbW).mono ?_
  intro e w9 hE
  obtain ⟨u, rfl⟩ := hE.ret
  have HE := Lib.hid (BenchEnd.back hbW hE)
  clear hE
  go_wp2_with fail
  go_ret
  exact HE.out
set_option maxRecDepth 100000 in
set_option maxHeartbeats 2000000 in
theorem word_do_3 (d r m c v o i : Value) (S : S8) (g lo hi : Nat) (w : World) (res : Int ⊕ S8) (hf : 2 ≤ S.data.length) (ho : OwnSt w lo hi d r m c v o i S) (hB : Blk w g 152 #[d, r, .int .i32 S.a, m, c, v, o, i, .int .i64 S.fault, .int .i64 S.fuel])
    (HF : ∀ W, Below w.heap.size w W → Calls Tryz.prog 117 #[.pointer (some ⟨g, 0, none⟩)] W (BenchEnd W g lo hi d r m c v o i S res)) :
    Calls Tryz.prog 98 #[.pointer (some ⟨g, 0, none⟩), .int .i64 ((3 : Nat) : Int)] w (BenchEnd w g lo hi d r m c v o i S res) := by
  have HB := Lib.hid (fun W => isbuiltin_any 3 W)
  rw [inB_true (by decide) (by decide)] at HB
  have hix : ∀ W, (Instr.index 82 (.agg primCells) (.int .i64 3)).run Tryz.prog W = .ok (.agg #[.string ⟨#[110, 105, 112]⟩, .int .i64 2, .func (.func 117) #[] #[]]) W := fun W => prim_index_3 W
  obtain ⟨D, dc, rfl⟩ := own_form ho.d
  have KB := Lib.hid hB
  have HFF := Lib.hid HF
  obtain ⟨n, hn⟩ : ∃ n, S.data.length = n := ⟨_, rfl⟩
  have HN := Lib.hid hn
  have g1 : ¬ (n : Int) < 2 := by omega
  clear ho hB hf hn HF
  go_enter Tryz.func98, Tryz.ntmps98
  go_wp2_with fail
  refine (HB.out _).mono ?_
  rintro e w' ⟨rfl, rfl⟩
  go_wp2_with fail
  refine (builtins_any _).mono ?_
  rintro e w1 ⟨rfl, hb⟩
  have HBB := Lib.hid hb
  have kb := KB.out.below hb KB.out.lt
  rw [HN.out] at kb
  obtain ⟨p0, p1, p2, p3, p4, p5, p6, p7, p8, p9⟩ := st_cells kb
  have lg : g < w1.heap.size := kb.lt
  clear hb kb
  go_wp2_with fail
  go_quiet (fail)
  go_wp2_with fail
  have hbW := HBB.out.trans (below_drewN ((below_alloc w1 (.cells #[.string ⟨#[110, 105, 112]⟩, .int .i64 2, .func (.func 117) #[] #[]] 81)).mono HBB.out.size) nq)
  refine (HFF.out _ hbW).mono ?_
  intro e w9 hE
  obtain ⟨u, rfl⟩ := hE.ret
  have HE := Lib.hid (BenchEnd.back hbW hE)
  clear hE
  go_wp2_with fail
  go_ret
  exact HE.out
set_option maxRecDepth 100000 in
set_option maxHeartbeats 2000000 in
theorem word_do_4 (d r m c v o i : Value) (S : S8) (g lo hi : Nat) (w : World) (res : Int ⊕ S8) (hf : 2 ≤ S.data.length) (ho : OwnSt w lo hi d r m c v o i S) (hB : Blk w g 152 #[d, r, .int .i32 S.a, m, c, v, o, i, .int .i64 S.fault, .int .i64 S.fuel])
    (HF : ∀ W, Below w.heap.size w W → Calls Tryz.prog 118 #[.pointer (some ⟨g, 0, none⟩)] W (BenchEnd W g lo hi d r m c v o i S res)) :
    Calls Tryz.prog 98 #[.pointer (some ⟨g, 0, none⟩), .int .i64 ((4 : Nat) : Int)] w (BenchEnd w g lo hi d r m c v o i S res) := by
  have HB := Lib.hid (fun W => isbuiltin_any 4 W)
  rw [inB_true (by decide) (by decide)] at HB
  have hix : ∀ W, (Instr.index 82 (.agg primCells) (.int .i64 4)).run Tryz.prog W = .ok (.agg #[.string ⟨#[115, 119, 97, 112]⟩, .int .i64 2, .func (.func 118) #[] #[]]) W := fun W => prim_index_4 W
  obtain ⟨D, dc, rfl⟩ := own_form ho.d
  have KB := Lib.hid hB
  have HFF := Lib.hid HF
  obtain ⟨n, hn⟩ : ∃ n, S.data.length = n := ⟨_, rfl⟩
  have HN := Lib.hid hn
  have g1 : ¬ (n : Int) < 2 := by omega
  clear ho hB hf hn HF
  go_enter Tryz.func98, Tryz.ntmps98
  go_wp2_with fail
  refine (HB.out _).mono ?_
  rintro e w' ⟨rfl, rfl⟩
  go_wp2_with fail
  refine (builtins_any _).mono ?_
  rintro e w1 ⟨rfl, hb⟩
  have HBB := Lib.hid hb
  have kb := KB.out.below hb KB.out.lt
  rw [HN.out] at kb
  obtain ⟨p0, p1, p2, p3, p4, p5, p6, p7, p8, p9⟩ := st_cells kb
  have lg : g < w1.heap.size := kb.lt
  clear hb kb
  go_wp2_with fail
  go_quiet (fail)
  go_wp2_with fail
  have hbW := HBB.out.trans (below_drewN ((below_alloc w1 (.cells #[.string ⟨#[115, 119, 97, 112]⟩, .int .i64 2, .func (.func 118) #[] #[]] 81)).mono HBB.out.size) nq)
  refine (HFF.out _ hbW).mono ?_
  intro e w9 hE
  obtain ⟨u, rfl⟩ := hE.ret
  have HE := Lib.hid (BenchEnd.back hbW hE)
  clear hE
  go_wp2_with fail
  go_ret
  exact HE.out
set_option maxRecDepth 100000 in
set_option maxHeartbeats 2000000 in
theorem word_do_5 (d r m c v o i : Value) (S : S8) (g lo hi : Nat) (w : World) (res : Int ⊕ S8) (hf : 2 ≤ S.data.length) (ho : OwnSt w lo hi d r m c v o i S) (hB : Blk w g 152 #[d, r, .int .i32 S.a, m, c, v, o, i, .int .i64 S.fault, .int .i64 S.fuel])
    (HF : ∀ W, Below w.heap.size w W → Calls Tryz.prog 119 #[.pointer (some ⟨g, 0, none⟩)] W (BenchEnd W g lo hi d r m c v o i S res)) :
    Calls Tryz.prog 98 #[.pointer (some ⟨g, 0, none⟩), .int .i64 ((5 : Nat) : Int)] w (BenchEnd w g lo hi d r m c v o i S res) := by
  have HB := Lib.hid (fun W => isbuiltin_any 5 W)
  rw [inB_true (by decide) (by decide)] at HB
  have hix : ∀ W, (Instr.index 82 (.agg primCells) (.int .i64 5)).run Tryz.prog W = .ok (.agg #[.string ⟨#[43]⟩, .int .i64 2, .func (.func 119) #[] #[]]) W := fun W => prim_index_5 W
  obtain ⟨D, dc, rfl⟩ := own_form ho.d
  have KB := Lib.hid hB
  have HFF := Lib.hid HF
  obtain ⟨n, hn⟩ : ∃ n, S.data.length = n := ⟨_, rfl⟩
  have HN := Lib.hid hn
  have g1 : ¬ (n : Int) < 2 := by omega
  clear ho hB hf hn HF
  go_enter Tryz.func98, Tryz.ntmps98
  go_wp2_with fail
  refine (HB.out _).mono ?_
  rintro e w' ⟨rfl, rfl⟩
  go_wp2_with fail
  refine (builtins_any _).mono ?_
  rintro e w1 ⟨rfl, hb⟩
  have HBB := Lib.hid hb
  have kb := KB.out.below hb KB.out.lt
  rw [HN.out] at kb
  obtain ⟨p0, p1, p2, p3, p4, p5, p6, p7, p8, p9⟩ := st_cells kb
  have lg : g < w1.heap.size := kb.lt
  clear hb kb
  go_wp2_with fail
  go_quiet (fail)
  go_wp2_with fail
  have hbW := HBB.out.trans (below_drewN ((below_alloc w1 (.cells #[.string ⟨#[43]⟩, .int .i64 2, .func (.func 119) #[] #[]] 81)).mono HBB.out.size) nq)
  refine (HFF.out _ hbW).mono ?_
  intro e w9 hE
  obtain ⟨u, rfl⟩ := hE.ret
  have HE := Lib.hid (BenchEnd.back hbW hE)
  clear hE
  go_wp2_with fail
  go_ret
  exact HE.out
end Go.Proofs.YtdiaiflleiebfaaGreatDoor

namespace Go.Proofs.YtdiaiflleiebfaaGreatDoor
open Go.RowKit Go

set_option maxRecDepth 100000 in
set_option maxHeartbeats 2000000 in
theorem word_do_6 (d r m c v o i : Value) (S : S8) (g lo hi : Nat) (w : World) (res : Int ⊕ S8) (hf : 1 ≤ S.data.length) (ho : OwnSt w lo hi d r m c v o i S) (hB : Blk w g 152 #[d, r, .int .i32 S.a, m, c, v, o, i, .int .i64 S.fault, .int .i64 S.fuel])
    (HF : ∀ W, Below w.heap.size w W → Calls Tryz.prog 120 #[.pointer (some ⟨g, 0, none⟩)] W (BenchEnd W g lo hi d r m c v o i S res)) :
    Calls Tryz.prog 98 #[.pointer (some ⟨g, 0, none⟩), .int .i64 ((6 : Nat) : Int)] w (BenchEnd w g lo hi d r m c v o i S res) := by
  have HB := Lib.hid (fun W => isbuiltin_any 6 W)
  rw [inB_true (by decide) (by decide)] at HB
  have hix : ∀ W, (Instr.index 82 (.agg primCells) (.int .i64 6)).run Tryz.prog W = .ok (.agg #[.string ⟨#[45]⟩, .int .i64 1, .func (.func 120) #[] #[]]) W := fun W => prim_index_6 W
  obtain ⟨D, dc, rfl⟩ := own_form ho.d
  have KB := Lib.hid hB
  have HFF := Lib.hid HF
  obtain ⟨n, hn⟩ : ∃ n, S.data.length = n := ⟨_, rfl⟩
  have HN := Lib.hid hn
  have g1 : ¬ (n : Int) < 1 := by omega
  clear ho hB hf hn HF
  go_enter Tryz.func98, Tryz.ntmps98
  go_wp2_with fail
  refine (HB.out _).mono ?_
  rintro e w' ⟨rfl, rfl⟩
  go_wp2_with fail
  refine (builtins_any _).mono ?_
  rintro e w1 ⟨rfl, hb⟩
  have HBB := Lib.hid hb
  have kb := KB.out.below hb KB.out.lt
  rw [HN.out] at kb
  obtain ⟨p0, p1, p2, p3, p4, p5, p6, p7, p8, p9⟩ := st_cells kb
  have lg : g < w1.heap.size := kb.lt
  clear hb kb
  go_wp2_with fail
  go_quiet (fail)
  go_wp2_with fail
  have hbW := HBB.out.trans (below_drewN ((below_alloc w1 (.cells #[.string ⟨#[45]⟩, .int .i64 1, .func (.func 120) #[] #[]] 81)).mono HBB.out.size) nq)
  refine (HFF.out _ hbW).mono ?_
  intro e w9 hE
  obtain ⟨u, rfl⟩ := hE.ret
  have HE := Lib.hid (BenchEnd.back hbW hE)
  clear hE
  go_wp2_with fail
  go_ret
  exact HE.out
set_option maxRecDepth 100000 in
set_option maxHeartbeats 2000000 in
theorem word_do_7 (d r m c v o i : Value) (S : S8) (g lo hi : Nat) (w : World) (res : Int ⊕ S8) (hf : 2 ≤ S.data.length) (ho : OwnSt w lo hi d r m c v o i S) (hB : Blk w g 152 #[d, r, .int .i32 S.a, m, c, v, o, i, .int .i64 S.fault, .int .i64 S.fuel])
    (HF : ∀ W, Below w.heap.size w W → Calls Tryz.prog 121 #[.pointer (some ⟨g, 0, none⟩)] W (BenchEnd W g lo hi d r m c v o i S res)) :
    Calls Tryz.prog 98 #[.pointer (some ⟨g, 0, none⟩), .int .i64 ((7 : Nat) : Int)] w (BenchEnd w g lo hi d r m c v o i S res) := by
  have HB := Lib.hid (fun W => isbuiltin_any 7 W)
  rw [inB_true (by decide) (by decide)] at HB
  have hix : ∀ W, (Instr.index 82 (.agg primCells) (.int .i64 7)).run Tryz.prog W = .ok (.agg #[.string ⟨#[42]⟩, .int .i64 2, .func (.func 121) #[] #[]]) W := fun W => prim_index_7 W
  obtain ⟨D, dc, rfl⟩ := own_form ho.d
  have KB := Lib.hid hB
  have HFF := Lib.hid HF
  obtain ⟨n, hn⟩ : ∃ n, S.data.length = n := ⟨_, rfl⟩
  have HN := Lib.hid hn
  have g1 : ¬ (n : Int) < 2 := by omega
  clear ho hB hf hn HF
  go_enter Tryz.func98, Tryz.ntmps98
  go_wp2_with fail
  refine (HB.out _).mono ?_
  rintro e w' ⟨rfl, rfl⟩
  go_wp2_with fail
  refine (builtins_any _).mono ?_
  rintro e w1 ⟨rfl, hb⟩
  have HBB := Lib.hid hb
  have kb := KB.out.below hb KB.out.lt
  rw [HN.out] at kb
  obtain ⟨p0, p1, p2, p3, p4, p5, p6, p7, p8, p9⟩ := st_cells kb
  have lg : g < w1.heap.size := kb.lt
  clear hb kb
  go_wp2_with fail
  go_quiet (fail)
  go_wp2_with fail
  have hbW := HBB.out.trans (below_drewN ((below_alloc w1 (.cells #[.string ⟨#[42]⟩, .int .i64 2, .func (.func 121) #[] #[]] 81)).mono HBB.out.size) nq)
  refine (HFF.out _ hbW).mono ?_
  intro e w9 hE
  obtain ⟨u, rfl⟩ := hE.ret
  have HE := Lib.hid (BenchEnd.back hbW hE)
  clear hE
  go_wp2_with fail
  go_ret
  exact HE.out
set_option maxRecDepth 100000 in
set_option maxHeartbeats 2000000 in
theorem word_do_8 (d r m c v o i : Value) (S : S8) (g lo hi : Nat) (w : World) (res : Int ⊕ S8) (hf : 2 ≤ S.data.length) (ho : OwnSt w lo hi d r m c v o i S) (hB : Blk w g 152 #[d, r, .int .i32 S.a, m, c, v, o, i, .int .i64 S.fault, .int .i64 S.fuel])
    (HF : ∀ W, Below w.heap.size w W → Calls Tryz.prog 122 #[.pointer (some ⟨g, 0, none⟩)] W (BenchEnd W g lo hi d r m c v o i S res)) :
    Calls Tryz.prog 98 #[.pointer (some ⟨g, 0, none⟩), .int .i64 ((8 : Nat) : Int)] w (BenchEnd w g lo hi d r m c v o i S res) := by
  have HB := Lib.hid (fun W => isbuiltin_any 8 W)
  rw [inB_true (by decide) (by decide)] at HB
  have hix : ∀ W, (Instr.index 82 (.agg primCells) (.int .i64 8)).run Tryz.prog W = .ok (.agg #[.string ⟨#[97, 110, 100]⟩, .int .i64 2, .func (.func 122) #[] #[]]) W := fun W => prim_index_8 W
  obtain ⟨D, dc, rfl⟩ := own_form ho.d
  have KB := Lib.hid hB
  have HFF := Lib.hid HF
  obtain ⟨n, hn⟩ : ∃ n, S.data.length = n := ⟨_, rfl⟩
  have HN := Lib.hid hn
  have g1 : ¬ (n : Int) < 2 := by omega
  clear ho hB hf hn HF
  go_enter Tryz.func98, Tryz.ntmps98
  go_wp2_with fail
  refine (HB.out _).mono ?_
  rintro e w' ⟨rfl, rfl⟩
  go_wp2_with fail
  refine (builtins_any _).mono ?_
  rintro e w1 ⟨rfl, hb⟩
  have HBB := Lib.hid hb
  have kb := KB.out.below hb KB.out.lt
  rw [HN.out] at kb
  obtain ⟨p0, p1, p2, p3, p4, p5, p6, p7, p8, p9⟩ := st_cells kb
  have lg : g < w1.heap.size := kb.lt
  clear hb kb
  go_wp2_with fail
  go_quiet (fail)
  go_wp2_with fail
  have hbW := HBB.out.trans (below_drewN ((below_alloc w1 (.cells #[.string ⟨#[97, 110, 100]⟩, .int .i64 2, .func (.func 122) #[] #[]] 81)).mono HBB.out.size) nq)
  refine (HFF.out _ hbW).mono ?_
  intro e w9 hE
  obtain ⟨u, rfl⟩ := hE.ret
  have HE := Lib.hid (BenchEnd.back hbW hE)
  clear hE
  go_wp2_with fail
  go_ret
  exact HE.out
set_option maxRecDepth 100000 in
set_option maxHeartbeats 2000000 in
theorem word_do_9 (d r m c v o i : Value) (S : S8) (g lo hi : Nat) (w : World) (res : Int ⊕ S8) (hf : 2 ≤ S.data.length) (ho : OwnSt w lo hi d r m c v o i S) (hB : Blk w g 152 #[d, r, .int .i32 S.a, m, c, v, o, i, .int .i64 S.fault, .int .i64 S.fuel])
    (HF : ∀ W, Below w.heap.size w W → Calls Tryz.prog 123 #[.pointer (some ⟨g, 0, none⟩)] W (BenchEnd W g lo hi d r m c v o i S res)) :
    Calls Tryz.prog 98 #[.pointer (some ⟨g, 0, none⟩), .int .i64 ((9 : Nat) : Int)] w (BenchEnd w g lo hi d r m c v o i S res) := by
  have HB := Lib.hid (fun W => isbuiltin_any 9 W)
  rw [inB_true (by decide) (by decide)] at HB
  have hix : ∀ W, (Instr.index 82 (.agg primCells) (.int .i64 9)).run Tryz.prog W = .ok (.agg #[.string ⟨#[111, 114]⟩, .int .i64 2, .func (.func 123) #[] #[]]) W := fun W => prim_index_9 W
  obtain ⟨D, dc, rfl⟩ := own_form ho.d
  have KB := Lib.hid hB
  have HFF := Lib.hid HF
  obtain ⟨n, hn⟩ : ∃ n, S.data.length = n := ⟨_, rfl⟩
  have HN := Lib.hid hn
  have g1 : ¬ (n : Int) < 2 := by omega
  clear ho hB hf hn HF
  go_enter Tryz.func98, Tryz.ntmps98
  go_wp2_with fail
  refine (HB.out _).mono ?_
  rintro e w' ⟨rfl, rfl⟩
  go_wp2_with fail
  refine (builtins_any _).mono ?_
  rintro e w1 ⟨rfl, hb⟩
  have HBB := Lib.hid hb
  have kb := KB.out.below hb KB.out.lt
  rw [HN.out] at kb
  obtain ⟨p0, p1, p2, p3, p4, p5, p6, p7, p8, p9⟩ := st_cells kb
  have lg : g < w1.heap.size := kb.lt
  clear hb kb
  go_wp2_with fail
  go_quiet (fail)
  go_wp2_with fail
  have hbW := HBB.out.trans (below_drewN ((below_alloc w1 (.cells #[.string ⟨#[111, 114]⟩, .int .i64 2, .func (.func 123) #[] #[]] 81)).mono HBB.out.size) nq)
  refine (HFF.out _ hbW).mono ?_
  intro e w9 hE
  obtain ⟨u, rfl⟩ := hE.ret
  have HE := Lib.hid (BenchEnd.back hbW hE)
  clear hE
  go_wp2_with fail
  go_ret
  exact HE.out
set_option maxRecDepth 100000 in
set_option maxHeartbeats 2000000 in
theorem word_do_10 (d r m c v o i : Value) (S : S8) (g lo hi : Nat) (w : World) (res : Int ⊕ S8) (hf : 1 ≤ S.data.length) (ho : OwnSt w lo hi d r m c v o i S) (hB : Blk w g 152 #[d, r, .int .i32 S.a, m, c, v, o, i, .int .i64 S.fault, .int .i64 S.fuel])
    (HF : ∀ W, Below w.heap.size w W → Calls Tryz.prog 124 #[.pointer (some ⟨g, 0, none⟩)] W (BenchEnd W g lo hi d r m c v o i S res)) :
    Calls Tryz.prog 98 #[.pointer (some ⟨g, 0, none⟩), .int .i64 ((10 : Nat) : Int)] w (BenchEnd w g lo hi d r m c v o i S res) := by
  have HB := Lib.hid (fun W => isbuiltin_any 10 W)
  rw [inB_true (by decide) (by decide)] at HB
  have hix : ∀ W, (Instr.index 82 (.agg primCells) (.int .i64 10)).run Tryz.prog W = .ok (.agg #[.string ⟨#[50, 42]⟩, .int .i64 1, .func (.func 124) #[] #[]]) W := fun W => prim_index_10 W
  obtain ⟨D, dc, rfl⟩ := own_form ho.d
  have KB := Lib.hid hB
  have HFF := Lib.hid HF
  obtain ⟨n, hn⟩ : ∃ n, S.data.length = n := ⟨_, rfl⟩
  have HN := Lib.hid hn
  have g1 : ¬ (n : Int) < 1 := by omega
  clear ho hB hf hn HF
  go_enter Tryz.func98, Tryz.ntmps98
  go_wp2_with fail
  refine (HB.out _).mono ?_
  rintro e w' ⟨rfl, rfl⟩
  go_wp2_with fail
  refine (builtins_any _).mono ?_
  rintro e w1 ⟨rfl, hb⟩
  have HBB := Lib.hid hb
  have kb := KB.out.below hb KB.out.lt
  rw [HN.out] at kb
  obtain ⟨p0, p1, p2, p3, p4, p5, p6, p7, p8, p9⟩ := st_cells kb
  have lg : g < w1.heap.size := kb.lt
  clear hb kb
  go_wp2_with fail
  go_quiet (fail)
  go_wp2_with fail
  have hbW := HBB.out.trans (below_drewN ((below_alloc w1 (.cells #[.string ⟨#[50, 42]⟩, .int .i64 1, .func (.func 124) #[] #[]] 81)).mono HBB.out.size) nq)
  refine (HFF.out _ hbW).mono ?_
  intro e w9 hE
  obtain ⟨u, rfl⟩ := hE.ret
  have HE := Lib.hid (BenchEnd.back hbW hE)
  clear hE
  go_wp2_with fail
  go_ret
  exact HE.out
set_option maxRecDepth 100000 in
set_option maxHeartbeats 2000000 in
theorem word_do_11 (d r m c v o i : Value) (S : S8) (g lo hi : Nat) (w : World) (res : Int ⊕ S8) (hf : 1 ≤ S.data.length) (ho : OwnSt w lo hi d r m c v o i S) (hB : Blk w g 152 #[d, r, .int .i32 S.a, m, c, v, o, i, .int .i64 S.fault, .int .i64 S.fuel])
    (HF : ∀ W, Below w.heap.size w W → Calls Tryz.prog 125 #[.pointer (some ⟨g, 0, none⟩)] W (BenchEnd W g lo hi d r m c v o i S res)) :
    Calls Tryz.prog 98 #[.pointer (some ⟨g, 0, none⟩), .int .i64 ((11 : Nat) : Int)] w (BenchEnd w g lo hi d r m c v o i S res) := by
  have HB := Lib.hid (fun W => isbuiltin_any 11 W)
  rw [inB_true (by decide) (by decide)] at HB
  have hix : ∀ W, (Instr.index 82 (.agg primCells) (.int .i64 11)).run Tryz.prog W = .ok (.agg #[.string ⟨#[50, 47]⟩, .int .i64 1, .func (.func 125) #[] #[]]) W := fun W => prim_index_11 W
  obtain ⟨D, dc, rfl⟩ := own_form ho.d
  have KB := Lib.hid hB
  have HFF := Lib.hid HF
  obtain ⟨n, hn⟩ : ∃ n, S.data.length = n := ⟨_, rfl⟩
  have HN := Lib.hid hn
  have g1 : ¬ (n : Int) < 1 := by omega
  clear ho hB hf hn HF
  go_enter Tryz.func98, Tryz.ntmps98
  go_wp2_with fail
  refine (HB.out _).mono ?_
  rintro e w' ⟨rfl, rfl⟩
  go_wp2_with fail
  refine (builtins_any _).mono ?_
  rintro e w1 ⟨rfl, hb⟩
  have HBB := Lib.hid hb
  have kb := KB.out.below hb KB.out.lt
  rw [HN.out] at kb
  obtain ⟨p0, p1, p2, p3, p4, p5, p6, p7, p8, p9⟩ := st_cells kb
  have lg : g < w1.heap.size := kb.lt
  clear hb kb
  go_wp2_with fail
  go_quiet (fail)
  go_wp2_with fail
  have hbW := HBB.out.trans (below_drewN ((below_alloc w1 (.cells #[.string ⟨#[50, 47]⟩, .int .i64 1, .func (.func 125) #[] #[]] 81)).mono HBB.out.size) nq)
  refine (HFF.out _ hbW).mono ?_
  intro e w9 hE
  obtain ⟨u, rfl⟩ := hE.ret
  have HE := Lib.hid (BenchEnd.back hbW hE)
  clear hE
  go_wp2_with fail
  go_ret
  exact HE.out
end Go.Proofs.YtdiaiflleiebfaaGreatDoor

namespace Go.Proofs.YtdiaiflleiebfaaGreatDoor
open Go.RowKit Go

set_option maxRecDepth 100000 in
set_option maxHeartbeats 2000000 in
theorem word_do_12 (d r m c v o i : Value) (S : S8) (g lo hi : Nat) (w : World) (res : Int ⊕ S8) (hf : 2 ≤ S.data.length) (ho : OwnSt w lo hi d r m c v o i S) (hB : Blk w g 152 #[d, r, .int .i32 S.a, m, c, v, o, i, .int .i64 S.fault, .int .i64 S.fuel])
    (HF : ∀ W, Below w.heap.size w W → Calls Tryz.prog 126 #[.pointer (some ⟨g, 0, none⟩)] W (BenchEnd W g lo hi d r m c v o i S res)) :
    Calls Tryz.prog 98 #[.pointer (some ⟨g, 0, none⟩), .int .i64 ((12 : Nat) : Int)] w (BenchEnd w g lo hi d r m c v o i S res) := by
  have HB := Lib.hid (fun W => isbuiltin_any 12 W)
  rw [inB_true (by decide) (by decide)] at HB
  have hix : ∀ W, (Instr.index 82 (.agg primCells) (.int .i64 12)).run Tryz.prog W = .ok (.agg #[.string ⟨#[47, 109, 111, 100]⟩, .int .i64 2, .func (.func 126) #[] #[]]) W := fun W => prim_index_12 W
  obtain ⟨D, dc, rfl⟩ := own_form ho.d
  have KB := Lib.hid hB
  have HFF := Lib.hid HF
  obtain ⟨n, hn⟩ : ∃ n, S.data.length = n := ⟨_, rfl⟩
  have HN := Lib.hid hn
  have g1 : ¬ (n : Int) < 2 := by omega
  clear ho hB hf hn HF
  go_enter Tryz.func98, Tryz.ntmps98
  go_wp2_with fail
  refine (HB.out _).mono ?_
  rintro e w' ⟨rfl, rfl⟩
  go_wp2_with fail
  refine (builtins_any _).mono ?_
  rintro e w1 ⟨rfl, hb⟩
  have HBB := Lib.hid hb
  have kb := KB.out.below hb KB.out.lt
  rw [HN.out] at kb
  obtain ⟨p0, p1, p2, p3, p4, p5, p6, p7, p8, p9⟩ := st_cells kb
  have lg : g < w1.heap.size := kb.lt
  clear hb kb
  go_wp2_with fail
  go_quiet (fail)
  go_wp2_with fail
  have hbW := HBB.out.trans (below_drewN ((below_alloc w1 (.cells #[.string ⟨#[47, 109, 111, 100]⟩, .int .i64 2, .func (.func 126) #[] #[]] 81)).mono HBB.out.size) nq)
  refine (HFF.out _ hbW).mono ?_
  intro e w9 hE
  obtain ⟨u, rfl⟩ := hE.ret
  have HE := Lib.hid (BenchEnd.back hbW hE)
  clear hE
  go_wp2_with fail
  go_ret
  exact HE.out
set_option maxRecDepth 100000 in
set_option maxHeartbeats 2000000 in
theorem word_do_13 (d r m c v o i : Value) (S : S8) (g lo hi : Nat) (w : World) (res : Int ⊕ S8) (hf : 1 ≤ S.data.length) (ho : OwnSt w lo hi d r m c v o i S) (hB : Blk w g 152 #[d, r, .int .i32 S.a, m, c, v, o, i, .int .i64 S.fault, .int .i64 S.fuel])
    (HF : ∀ W, Below w.heap.size w W → Calls Tryz.prog 127 #[.pointer (some ⟨g, 0, none⟩)] W (BenchEnd W g lo hi d r m c v o i S res)) :
    Calls Tryz.prog 98 #[.pointer (some ⟨g, 0, none⟩), .int .i64 ((13 : Nat) : Int)] w (BenchEnd w g lo hi d r m c v o i S res) := by
  have HB := Lib.hid (fun W => isbuiltin_any 13 W)
  rw [inB_true (by decide) (by decide)] at HB
  have hix : ∀ W, (Instr.index 82 (.agg primCells) (.int .i64 13)).run Tryz.prog W = .ok (.agg #[.string ⟨#[64]⟩, .int .i64 1, .func (.func 127) #[] #[]]) W := fun W => prim_index_13 W
  obtain ⟨D, dc, rfl⟩ := own_form ho.d
  have KB := Lib.hid hB
  have HFF := Lib.hid HF
  obtain ⟨n, hn⟩ : ∃ n, S.data.length = n := ⟨_, rfl⟩
  have HN := Lib.hid hn
  have g1 : ¬ (n : Int) < 1 := by omega
  clear ho hB hf hn HF
  go_enter Tryz.func98, Tryz.ntmps98
  go_wp2_with fail
  refine (HB.out _).mono ?_
  rintro e w' ⟨rfl, rfl⟩
  go_wp2_with fail
  refine (builtins_any _).mono ?_
  rintro e w1 ⟨rfl, hb⟩
  have HBB := Lib.hid hb
  have kb := KB.out.below hb KB.out.lt
  rw [HN.out] at kb
  obtain ⟨p0, p1, p2, p3, p4, p5, p6, p7, p8, p9⟩ := st_cells kb
  have lg : g < w1.heap.size := kb.lt
  clear hb kb
  go_wp2_with fail
  go_quiet (fail)
  go_wp2_with fail
  have hbW := HBB.out.trans (below_drewN ((below_alloc w1 (.cells #[.string ⟨#[64]⟩, .int .i64 1, .func (.func 127) #[] #[]] 81)).mono HBB.out.size) nq)
  refine (HFF.out _ hbW).mono ?_
  intro e w9 hE
  obtain ⟨u, rfl⟩ := hE.ret
  have HE := Lib.hid (BenchEnd.back hbW hE)
  clear hE
  go_wp2_with fail
  go_ret
  exact HE.out
set_option maxRecDepth 100000 in
set_option maxHeartbeats 2000000 in
theorem word_do_14 (d r m c v o i : Value) (S : S8) (g lo hi : Nat) (w : World) (res : Int ⊕ S8) (hf : 2 ≤ S.data.length) (ho : OwnSt w lo hi d r m c v o i S) (hB : Blk w g 152 #[d, r, .int .i32 S.a, m, c, v, o, i, .int .i64 S.fault, .int .i64 S.fuel])
    (HF : ∀ W, Below w.heap.size w W → Calls Tryz.prog 128 #[.pointer (some ⟨g, 0, none⟩)] W (BenchEnd W g lo hi d r m c v o i S res)) :
    Calls Tryz.prog 98 #[.pointer (some ⟨g, 0, none⟩), .int .i64 ((14 : Nat) : Int)] w (BenchEnd w g lo hi d r m c v o i S res) := by
  have HB := Lib.hid (fun W => isbuiltin_any 14 W)
  rw [inB_true (by decide) (by decide)] at HB
  have hix : ∀ W, (Instr.index 82 (.agg primCells) (.int .i64 14)).run Tryz.prog W = .ok (.agg #[.string ⟨#[33]⟩, .int .i64 2, .func (.func 128) #[] #[]]) W := fun W => prim_index_14 W
  obtain ⟨D, dc, rfl⟩ := own_form ho.d
  have KB := Lib.hid hB
  have HFF := Lib.hid HF
  obtain ⟨n, hn⟩ : ∃ n, S.data.length = n := ⟨_, rfl⟩
  have HN := Lib.hid hn
  have g1 : ¬ (n : Int) < 2 := by omega
  clear ho hB hf hn HF
  go_enter Tryz.func98, Tryz.ntmps98
  go_wp2_with fail
  refine (HB.out _).mono ?_
  rintro e w' ⟨rfl, rfl⟩
  go_wp2_with fail
  refine (builtins_any _).mono ?_
  rintro e w1 ⟨rfl, hb⟩
  have HBB := Lib.hid hb
  have kb := KB.out.below hb KB.out.lt
  rw [HN.out] at kb
  obtain ⟨p0, p1, p2, p3, p4, p5, p6, p7, p8, p9⟩ := st_cells kb
  have lg : g < w1.heap.size := kb.lt
  clear hb kb
  go_wp2_with fail
  go_quiet (fail)
  go_wp2_with fail
  have hbW := HBB.out.trans (below_drewN ((below_alloc w1 (.cells #[.string ⟨#[33]⟩, .int .i64 2, .func (.func 128) #[] #[]] 81)).mono HBB.out.size) nq)
  refine (HFF.out _ hbW).mono ?_
  intro e w9 hE
  obtain ⟨u, rfl⟩ := hE.ret
  have HE := Lib.hid (BenchEnd.back hbW hE)
  clear hE
  go_wp2_with fail
  go_ret
  exact HE.out
set_option maxRecDepth 100000 in
set_option maxHeartbeats 2000000 in
theorem word_do_15 (d r m c v o i : Value) (S : S8) (g lo hi : Nat) (w : World) (res : Int ⊕ S8) (hf : 0 ≤ S.data.length) (ho : OwnSt w lo hi d r m c v o i S) (hB : Blk w g 152 #[d, r, .int .i32 S.a, m, c, v, o, i, .int .i64 S.fault, .int .i64 S.fuel])
    (HF : ∀ W, Below w.heap.size w W → Calls Tryz.prog 129 #[.pointer (some ⟨g, 0, none⟩)] W (BenchEnd W g lo hi d r m c v o i S res)) :
    Calls Tryz.prog 98 #[.pointer (some ⟨g, 0, none⟩), .int .i64 ((15 : Nat) : Int)] w (BenchEnd w g lo hi d r m c v o i S res) := by
  have HB := Lib.hid (fun W => isbuiltin_any 15 W)
  rw [inB_true (by decide) (by decide)] at HB
  have hix : ∀ W, (Instr.index 82 (.agg primCells) (.int .i64 15)).run Tryz.prog W = .ok (.agg #[.string ⟨#[97]⟩, .int .i64 0, .func (.func 129) #[] #[]]) W := fun W => prim_index_15 W
  obtain ⟨D, dc, rfl⟩ := own_form ho.d
  have KB := Lib.hid hB
  have HFF := Lib.hid HF
  obtain ⟨n, hn⟩ : ∃ n, S.data.length = n := ⟨_, rfl⟩
  have HN := Lib.hid hn
  have g1 : ¬ (n : Int) < 0 := by omega
  clear ho hB hf hn HF
  go_enter Tryz.func98, Tryz.ntmps98
  go_wp2_with fail
  refine (HB.out _).mono ?_
  rintro e w' ⟨rfl, rfl⟩
  go_wp2_with fail
  refine (builtins_any _).mono ?_
  rintro e w1 ⟨rfl, hb⟩
  have HBB := Lib.hid hb
  have kb := KB.out.below hb KB.out.lt
  rw [HN.out] at kb
  obtain ⟨p0, p1, p2, p3, p4, p5, p6, p7, p8, p9⟩ := st_cells kb
  have lg : g < w1.heap.size := kb.lt
  clear hb kb
  go_wp2_with fail
  go_quiet (fail)
  go_wp2_with fail
  have hbW := HBB.out.trans (below_drewN ((below_alloc w1 (.cells #[.string ⟨#[97]⟩, .int .i64 0, .func (.func 129) #[] #[]] 81)).mono HBB.out.size) nq)
  refine (HFF.out _ hbW).mono ?_
  intro e w9 hE
  obtain ⟨u, rfl⟩ := hE.ret
  have HE := Lib.hid (BenchEnd.back hbW hE)
  clear hE
  go_wp2_with fail
  go_ret
  exact HE.out
set_option maxRecDepth 100000 in
set_option maxHeartbeats 2000000 in
theorem word_do_16 (d r m c v o i : Value) (S : S8) (g lo hi : Nat) (w : World) (res : Int ⊕ S8) (hf : 1 ≤ S.data.length) (ho : OwnSt w lo hi d r m c v o i S) (hB : Blk w g 152 #[d, r, .int .i32 S.a, m, c, v, o, i, .int .i64 S.fault, .int .i64 S.fuel])
    (HF : ∀ W, Below w.heap.size w W → Calls Tryz.prog 130 #[.pointer (some ⟨g, 0, none⟩)] W (BenchEnd W g lo hi d r m c v o i S res)) :
    Calls Tryz.prog 98 #[.pointer (some ⟨g, 0, none⟩), .int .i64 ((16 : Nat) : Int)] w (BenchEnd w g lo hi d r m c v o i S res) := by
  have HB := Lib.hid (fun W => isbuiltin_any 16 W)
  rw [inB_true (by decide) (by decide)] at HB
  have hix : ∀ W, (Instr.index 82 (.agg primCells) (.int .i64 16)).run Tryz.prog W = .ok (.agg #[.string ⟨#[97, 33]⟩, .int .i64 1, .func (.func 130) #[] #[]]) W := fun W => prim_index_16 W
  obtain ⟨D, dc, rfl⟩ := own_form ho.d
  have KB := Lib.hid hB
  have HFF := Lib.hid HF
  obtain ⟨n, hn⟩ : ∃ n, S.data.length = n := ⟨_, rfl⟩
  have HN := Lib.hid hn
  have g1 : ¬ (n : Int) < 1 := by omega
  clear ho hB hf hn HF
  go_enter Tryz.func98, Tryz.ntmps98
  go_wp2_with fail
  refine (HB.out _).mono ?_
  rintro e w' ⟨rfl, rfl⟩
  go_wp2_with fail
  refine (builtins_any _).mono ?_
  rintro e w1 ⟨rfl, hb⟩
  have HBB := Lib.hid hb
  have kb := KB.out.below hb KB.out.lt
  rw [HN.out] at kb
  obtain ⟨p0, p1, p2, p3, p4, p5, p6, p7, p8, p9⟩ := st_cells kb
  have lg : g < w1.heap.size := kb.lt
  clear hb kb
  go_wp2_with fail
  go_quiet (fail)
  go_wp2_with fail
  have hbW := HBB.out.trans (below_drewN ((below_alloc w1 (.cells #[.string ⟨#[97, 33]⟩, .int .i64 1, .func (.func 130) #[] #[]] 81)).mono HBB.out.size) nq)
  refine (HFF.out _ hbW).mono ?_
  intro e w9 hE
  obtain ⟨u, rfl⟩ := hE.ret
  have HE := Lib.hid (BenchEnd.back hbW hE)
  clear hE
  go_wp2_with fail
  go_ret
  exact HE.out
set_option maxRecDepth 100000 in
set_option maxHeartbeats 2000000 in
theorem word_do_17 (d r m c v o i : Value) (S : S8) (g lo hi : Nat) (w : World) (res : Int ⊕ S8) (hf : 1 ≤ S.data.length) (ho : OwnSt w lo hi d r m c v o i S) (hB : Blk w g 152 #[d, r, .int .i32 S.a, m, c, v, o, i, .int .i64 S.fault, .int .i64 S.fuel])
    (HF : ∀ W, Below w.heap.size w W → Calls Tryz.prog 131 #[.pointer (some ⟨g, 0, none⟩)] W (BenchEnd W g lo hi d r m c v o i S res)) :
    Calls Tryz.prog 98 #[.pointer (some ⟨g, 0, none⟩), .int .i64 ((17 : Nat) : Int)] w (BenchEnd w g lo hi d r m c v o i S res) := by
  have HB := Lib.hid (fun W => isbuiltin_any 17 W)
  rw [inB_true (by decide) (by decide)] at HB
  have hix : ∀ W, (Instr.index 82 (.agg primCells) (.int .i64 17)).run Tryz.prog W = .ok (.agg #[.string ⟨#[101, 109, 105, 116]⟩, .int .i64 1, .func (.func 131) #[] #[]]) W := fun W => prim_index_17 W
  obtain ⟨D, dc, rfl⟩ := own_form ho.d
  have KB := Lib.hid hB
  have HFF := Lib.hid HF
  obtain ⟨n, hn⟩ : ∃ n, S.data.length = n := ⟨_, rfl⟩
  have HN := Lib.hid hn
  have g1 : ¬ (n : Int) < 1 := by omega
  clear ho hB hf hn HF
  go_enter Tryz.func98, Tryz.ntmps98
  go_wp2_with fail
  refine (HB.out _).mono ?_
  rintro e w' ⟨rfl, rfl⟩
  go_wp2_with fail
  refine (builtins_any _).mono ?_
  rintro e w1 ⟨rfl, hb⟩
  have HBB := Lib.hid hb
  have kb := KB.out.below hb KB.out.lt
  rw [HN.out] at kb
  obtain ⟨p0, p1, p2, p3, p4, p5, p6, p7, p8, p9⟩ := st_cells kb
  have lg : g < w1.heap.size := kb.lt
  clear hb kb
  go_wp2_with fail
  go_quiet (fail)
  go_wp2_with fail
  have hbW := HBB.out.trans (below_drewN ((below_alloc w1 (.cells #[.string ⟨#[101, 109, 105, 116]⟩, .int .i64 1, .func (.func 131) #[] #[]] 81)).mono HBB.out.size) nq)
  refine (HFF.out _ hbW).mono ?_
  intro e w9 hE
  obtain ⟨u, rfl⟩ := hE.ret
  have HE := Lib.hid (BenchEnd.back hbW hE)
  clear hE
  go_wp2_with fail
  go_ret
  exact HE.out
end Go.Proofs.YtdiaiflleiebfaaGreatDoor
