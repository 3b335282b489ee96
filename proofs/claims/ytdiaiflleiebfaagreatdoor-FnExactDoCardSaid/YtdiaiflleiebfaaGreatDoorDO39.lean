/-
  (*bench).word: the words, one by one.
  (*bench).word: a built-in word on a bench.
  The closure of done.
  A closure over one number, handed to tried.
-/
import Derived.Test.YtdiaiflleiebfaaGreatDoorDO38
import Derived.Test.YtdiaiflleiebfaaGreatDoorDO37
import Derived.Laws.EntriesVeiled
import Derived.Test.YtdiaiflleiebfaaGreatDoorDO35
import Derived.Test.YtdiaiflleiebfaaGreatDoorDO16
namespace Go.Proofs.YtdiaiflleiebfaaGreatDoor
open Go.RowKit Go

set_option maxRecDepth 100000 in
set_option maxHeartbeats 2000000 in
theorem word_do_18 (d r m c v o i : Value) (S : S8) (g lo hi : Nat) (w : World) (res : Int ⊕ S8) (hf : 0 ≤ S.data.length) (ho : OwnSt w lo hi d r m c v o i S) (hB : Blk w g 152 #[d, r, .int .i32 S.a, m, c, v, o, i, .int .i64 S.fault, .int .i64 S.fuel])
    (HF : ∀ W, Below w.heap.size w W → Calls Tryz.prog 132 #[.pointer (some ⟨g, 0, none⟩)] W (BenchEnd W g lo hi d r m c v o i S res)) :
    Calls Tryz.prog 98 #[.pointer (some ⟨g, 0, none⟩), .int .i64 ((18 : Nat) : Int)] w (BenchEnd w g lo hi d r m c v o i S res) := by
  have HB := Lib.hid (fun W => isbuiltin_any 18 W)
  rw [inB_true (by decide) (by decide)] at HB
  have hix : ∀ W, (Instr.index 82 (.agg primCells) (.int .i64 18)).run Tryz.prog W = .ok (.agg #[.string ⟨#[107, 101, 121]⟩, .int .i64 0, .func (.func 132) #[] #[]]) W := fun W => prim_index_18 W
  obtain ⟨D, dc, rfl⟩ := own_form ho.d
  have KB := Lib.hid hB
  have HFF := Lib.hid HF
  obtain ⟨n, hn⟩ : ∃ n, S.data.length = n := ⟨_, rfl⟩
  have HN := Lib.hid hn
  have g1 : ¬ (n : Int) < 0 := by omega
  clear ho hB hf hn HF
  go_enter Tryz.func98, Tryz.ntmps98
  go_wp2_with fail
  refine (HB.out _).mono ?_
  rintro e w' ⟨rfl, rfl⟩
  go_wp2_with fail
  refine (builtins_any _).mono ?_
  rintro e w1 ⟨rfl, hb⟩
  have HBB := Lib.hid hb
  have kb := KB.out.below hb KB.out.lt
  rw [HN.out] at kb
  obtain ⟨p0, p1, p2, p3, p4, p5, p6, p7, p8, p9⟩ := st_cells kb
  have lg : g < w1.heap.size := kb.lt
  clear hb kb
  go_wp2_with fail
  go_quiet (fail)
  go_wp2_with fail
  have hbW := HBB.out.trans (below_drewN ((below_alloc w1 (.cells #[.string ⟨#[107, 101, 121]⟩, .int .i64 0, .func (.func 132) #[] #[]] 81)).mono HBB.out.size) nq)
  refine (HFF.out _ hbW).mono ?_
  intro e w9 hE
  obtain ⟨u, rfl⟩ := hE.ret
  have HE := Lib.hid (BenchEnd.back hbW hE)
  clear hE
  go_wp2_with fail
  go_ret
  exact HE.out
set_option maxRecDepth 100000 in
set_option maxHeartbeats 2000000 in
theorem word_do_19 (d r m c v o i : Value) (S : S8) (g lo hi : Nat) (w : World) (res : Int ⊕ S8) (hf : 1 ≤ S.data.length) (ho : OwnSt w lo hi d r m c v o i S) (hB : Blk w g 152 #[d, r, .int .i32 S.a, m, c, v, o, i, .int .i64 S.fault, .int .i64 S.fuel])
    (HF : ∀ W, Below w.heap.size w W → Calls Tryz.prog 133 #[.pointer (some ⟨g, 0, none⟩)] W (BenchEnd W g lo hi d r m c v o i S res)) :
    Calls Tryz.prog 98 #[.pointer (some ⟨g, 0, none⟩), .int .i64 ((19 : Nat) : Int)] w (BenchEnd w g lo hi d r m c v o i S res) := by
  have HB := Lib.hid (fun W => isbuiltin_any 19 W)
  rw [inB_true (by decide) (by decide)] at HB
  have hix : ∀ W, (Instr.index 82 (.agg primCells) (.int .i64 19)).run Tryz.prog W = .ok (.agg #[.string ⟨#[112, 117, 115, 104]⟩, .int .i64 1, .func (.func 133) #[] #[]]) W := fun W => prim_index_19 W
  obtain ⟨D, dc, rfl⟩ := own_form ho.d
  have KB := Lib.hid hB
  have HFF := Lib.hid HF
  obtain ⟨n, hn⟩ : ∃ n, S.data.length = n := ⟨_, rfl⟩
  have HN := Lib.hid hn
  have g1 : ¬ (n : Int) < 1 := by omega
  clear ho hB hf hn HF
  go_enter Tryz.func98, Tryz.ntmps98
  go_wp2_with fail
  refine (HB.out _).mono ?_
  rintro e w' ⟨rfl, rfl⟩
  go_wp2_with fail
  refine (builtins_any _).mono ?_
  rintro e w1 ⟨rfl, hb⟩
  have HBB := Lib.hid hb
  have kb := KB.out.below hb KB.out.lt
  rw [HN.out] at kb
  obtain ⟨p0, p1, p2, p3, p4, p5, p6, p7, p8, p9⟩ := st_cells kb
  have lg : g < w1.heap.size := kb.lt
  clear hb kb
  go_wp2_with fail
  go_quiet (fail)
  go_wp2_with fail
  have hbW := HBB.out.trans (below_drewN ((below_alloc w1 (.cells #[.string ⟨#[112, 117, 115, 104]⟩, .int .i64 1, .func (.func 133) #[] #[]] 81)).mono HBB.out.size) nq)
  refine (HFF.out _ hbW).mono ?_
  intro e w9 hE
  obtain ⟨u, rfl⟩ := hE.ret
  have HE := Lib.hid (BenchEnd.back hbW hE)
  clear hE
  go_wp2_with fail
  go_ret
  exact HE.out
set_option maxRecDepth 100000 in
set_option maxHeartbeats 2000000 in
theorem word_do_20 (d r m c v o i : Value) (S : S8) (g lo hi : Nat) (w : World) (res : Int ⊕ S8) (hf : 0 ≤ S.data.length) (ho : OwnSt w lo hi d r m c v o i S) (hB : Blk w g 152 #[d, r, .int .i32 S.a, m, c, v, o, i, .int .i64 S.fault, .int .i64 S.fuel])
    (HF : ∀ W, Below w.heap.size w W → Calls Tryz.prog 134 #[.pointer (some ⟨g, 0, none⟩)] W (BenchEnd W g lo hi d r m c v o i S res)) :
    Calls Tryz.prog 98 #[.pointer (some ⟨g, 0, none⟩), .int .i64 ((20 : Nat) : Int)] w (BenchEnd w g lo hi d r m c v o i S res) := by
  have HB := Lib.hid (fun W => isbuiltin_any 20 W)
  rw [inB_true (by decide) (by decide)] at HB
  have hix : ∀ W, (Instr.index 82 (.agg primCells) (.int .i64 20)).run Tryz.prog W = .ok (.agg #[.string ⟨#[112, 111, 112]⟩, .int .i64 0, .func (.func 134) #[] #[]]) W := fun W => prim_index_20 W
  obtain ⟨D, dc, rfl⟩ := own_form ho.d
  have KB := Lib.hid hB
  have HFF := Lib.hid HF
  obtain ⟨n, hn⟩ : ∃ n, S.data.length = n := ⟨_, rfl⟩
  have HN := Lib.hid hn
  have g1 : ¬ (n : Int) < 0 := by omega
  clear ho hB hf hn HF
  go_enter Tryz.func98, Tryz.ntmps98
  go_wp2_with fail
  refine (HB.out _).mono ?_
  rintro e w' ⟨rfl, rfl⟩
  go_wp2_with fail
  refine (builtins_any _).mono ?_
  rintro e w1 ⟨rfl, hb⟩
  have HBB := Lib.hid hb
  have kb := KB.out.below hb KB.out.lt
  rw [HN.out] at kb
  obtain ⟨p0, p1, p2, p3, p4, p5, p6, p7, p8, p9⟩ := st_cells kb
  have lg : g < w1.heap.size := kb.lt
  clear hb kb
  go_wp2_with fail
  go_quiet (fail)
  go_wp2_with fail
  have hbW := HBB.out.trans (below_drewN ((below_alloc w1 (.cells #[.string ⟨#[112, 111, 112]⟩, .int .i64 0, .func (.func 134) #[] #[]] 81)).mono HBB.out.size) nq)
  refine (HFF.out _ hbW).mono ?_
  intro e w9 hE
  obtain ⟨u, rfl⟩ := hE.ret
  have HE := Lib.hid (BenchEnd.back hbW hE)
  clear hE
  go_wp2_with fail
  go_ret
  exact HE.out
set_option maxRecDepth 100000 in
set_option maxHeartbeats 2000000 in
theorem word_do_21 (d r m c v o i : Value) (S : S8) (g lo hi : Nat) (w : World) (res : Int ⊕ S8) (hf : 0 ≤ S.data.length) (ho : OwnSt w lo hi d r m c v o i S) (hB : Blk w g 152 #[d, r, .int .i32 S.a, m, c, v, o, i, .int .i64 S.fault, .int .i64 S.fuel])
    (HF : ∀ W, Below w.heap.size w W → Calls Tryz.prog 135 #[.pointer (some ⟨g, 0, none⟩)] W (BenchEnd W g lo hi d r m c v o i S res)) :
    Calls Tryz.prog 98 #[.pointer (some ⟨g, 0, none⟩), .int .i64 ((21 : Nat) : Int)] w (BenchEnd w g lo hi d r m c v o i S res) := by
  have HB := Lib.hid (fun W => isbuiltin_any 21 W)
  rw [inB_true (by decide) (by decide)] at HB
  have hix : ∀ W, (Instr.index 82 (.agg primCells) (.int .i64 21)).run Tryz.prog W = .ok (.agg #[.string ⟨#[105]⟩, .int .i64 0, .func (.func 135) #[] #[]]) W := fun W => prim_index_21 W
  obtain ⟨D, dc, rfl⟩ := own_form ho.d
  have KB := Lib.hid hB
  have HFF := Lib.hid HF
  obtain ⟨n, hn⟩ : ∃ n, S.data.length = n := ⟨_, rfl⟩
  have HN := Lib.hid hn
  have g1 : ¬ (n : Int) < 0 := by omega
  clear ho hB hf hn HF
  go_enter Tryz.func98, Tryz.ntmps98
  go_wp2_with fail
  refine (HB.out _).mono ?_
  rintro e w' ⟨rfl, rfl⟩
  go_wp2_with fail
  refine (builtins_any _).mono ?_
  rintro e w1 ⟨rfl, hb⟩
  have HBB := Lib.hid hb
  have kb := KB.out.below hb KB.out.lt
  rw [HN.out] at kb
  obtain ⟨p0, p1, p2, p3, p4, p5, p6, p7, p8, p9⟩ := st_cells kb
  have lg : g < w1.heap.size := kb.lt
  clear hb kb
  go_wp2_with fail
  go_quiet (fail)
  go_wp2_with fail
  have hbW := HBB.out.trans (below_drewN ((below_alloc w1 (.cells #[.string ⟨#[105]⟩, .int .i64 0, .func (.func 135) #[] #[]] 81)).mono HBB.out.size) nq)
  refine (HFF.out _ hbW).mono ?_
  intro e w9 hE
  obtain ⟨u, rfl⟩ := hE.ret
  have HE := Lib.hid (BenchEnd.back hbW hE)
  clear hE
  go_wp2_with fail
  go_ret
  exact HE.out
set_option maxRecDepth 100000 in
set_option maxHeartbeats 2000000 in
theorem word_do_22 (d r m c v o i : Value) (S : S8) (g lo hi : Nat) (w : World) (res : Int ⊕ S8) (hf : 1 ≤ S.data.length) (ho : OwnSt w lo hi d r m c v o i S) (hB : Blk w g 152 #[d, r, .int .i32 S.a, m, c, v, o, i, .int .i64 S.fault, .int .i64 S.fuel])
    (HF : ∀ W, Below w.heap.size w W → Calls Tryz.prog 136 #[.pointer (some ⟨g, 0, none⟩)] W (BenchEnd W g lo hi d r m c v o i S res)) :
    Calls Tryz.prog 98 #[.pointer (some ⟨g, 0, none⟩), .int .i64 ((22 : Nat) : Int)] w (BenchEnd w g lo hi d r m c v o i S res) := by
  have HB := Lib.hid (fun W => isbuiltin_any 22 W)
  rw [inB_true (by decide) (by decide)] at HB
  have hix : ∀ W, (Instr.index 82 (.agg primCells) (.int .i64 22)).run Tryz.prog W = .ok (.agg #[.string ⟨#[46]⟩, .int .i64 1, .func (.func 136) #[] #[]]) W := fun W => prim_index_22 W
  obtain ⟨D, dc, rfl⟩ := own_form ho.d
  have KB := Lib.hid hB
  have HFF := Lib.hid HF
  obtain ⟨n, hn⟩ : ∃ n, S.data.length = n := ⟨_, rfl⟩
  have HN := Lib.hid hn
  have g1 : ¬ (n : Int) < 1 := by omega
  clear ho hB hf hn HF
  go_enter Tryz.func98, Tryz.ntmps98
  go_wp2_with fail
  refine (HB.out _).mono ?_
  rintro e w' ⟨rfl, rfl⟩
  go_wp2_with fail
  refine (builtins_any _).mono ?_
  rintro e w1 ⟨rfl, hb⟩
  have HBB := Lib.hid hb
  have kb := KB.out.below hb KB.out.lt
  rw [HN.out] at kb
  obtain ⟨p0, p1, p2, p3, p4, p5, p6, p7, p8, p9⟩ := st_cells kb
  have lg : g < w1.heap.size := kb.lt
  clear hb kb
  go_wp2_with fail
  go_quiet (fail)
  go_wp2_with fail
  have hbW := HBB.out.trans (below_drewN ((below_alloc w1 (.cells #[.string ⟨#[46]⟩, .int .i64 1, .func (.func 136) #[] #[]] 81)).mono HBB.out.size) nq)
  refine (HFF.out _ hbW).mono ?_
  intro e w9 hE
  obtain ⟨u, rfl⟩ := hE.ret
  have HE := Lib.hid (BenchEnd.back hbW hE)
  clear hE
  go_wp2_with fail
  go_ret
  exact HE.out
set_option maxRecDepth 100000 in
set_option maxHeartbeats 2000000 in
theorem word_do_23 (d r m c v o i : Value) (S : S8) (g lo hi : Nat) (w : World) (res : Int ⊕ S8) (hf : 0 ≤ S.data.length) (ho : OwnSt w lo hi d r m c v o i S) (hB : Blk w g 152 #[d, r, .int .i32 S.a, m, c, v, o, i, .int .i64 S.fault, .int .i64 S.fuel])
    (HF : ∀ W, Below w.heap.size w W → Calls Tryz.prog 137 #[.pointer (some ⟨g, 0, none⟩)] W (BenchEnd W g lo hi d r m c v o i S res)) :
    Calls Tryz.prog 98 #[.pointer (some ⟨g, 0, none⟩), .int .i64 ((23 : Nat) : Int)] w (BenchEnd w g lo hi d r m c v o i S res) := by
  have HB := Lib.hid (fun W => isbuiltin_any 23 W)
  rw [inB_true (by decide) (by decide)] at HB
  have hix : ∀ W, (Instr.index 82 (.agg primCells) (.int .i64 23)).run Tryz.prog W = .ok (.agg #[.string ⟨#[110, 111, 112]⟩, .int .i64 0, .func (.func 137) #[] #[]]) W := fun W => prim_index_23 W
  obtain ⟨D, dc, rfl⟩ := own_form ho.d
  have KB := Lib.hid hB
  have HFF := Lib.hid HF
  obtain ⟨n, hn⟩ : ∃ n, S.data.length = n := ⟨_, rfl⟩
  have HN := Lib.hid hn
  have g1 : ¬ (n : Int) < 0 := by omega
  clear ho hB hf hn HF
  go_enter Tryz.func98, Tryz.ntmps98
  go_wp2_with fail
  refine (HB.out _).mono ?_
  rintro e w' ⟨rfl, rfl⟩
  go_wp2_with fail
  refine (builtins_any _).mono ?_
  rintro e w1 ⟨rfl, hb⟩
  have HBB := Lib.hid hb
  have kb := KB.out.below hb KB.out.lt
  rw [HN.out] at kb
  obtain ⟨p0, p1, p2, p3, p4, p5, p6, p7, p8, p9⟩ := st_cells kb
  have lg : g < w1.heap.size := kb.lt
  clear hb kb
  go_wp2_with fail
  go_quiet (fail)
  go_wp2_with fail
  have hbW := HBB.out.trans (below_drewN ((below_alloc w1 (.cells #[.string ⟨#[110, 111, 112]⟩, .int .i64 0, .func (.func 137) #[] #[]] 81)).mono HBB.out.size) nq)
  refine (HFF.out _ hbW).mono ?_
  intro e w9 hE
  obtain ⟨u, rfl⟩ := hE.ret
  have HE := Lib.hid (BenchEnd.back hbW hE)
  clear hE
  go_wp2_with fail
  go_ret
  exact HE.out
end Go.Proofs.YtdiaiflleiebfaaGreatDoor

namespace Go.Proofs.YtdiaiflleiebfaaGreatDoor
open Go.RowKit Go

theorem prim_cell (k : Nat) (hk : k < 24) : ∃ nm f, primCell k = #[.string nm, .int .i64 (takes8 k), .func (.func f) #[] #[]] := by
  match k, hk with
  | 0, _ => exact ⟨_, _, rfl⟩
  | 1, _ => exact ⟨_, _, rfl⟩
  | 2, _ => exact ⟨_, _, rfl⟩
  | 3, _ => exact ⟨_, _, rfl⟩
  | 4, _ => exact ⟨_, _, rfl⟩
  | 5, _ => exact ⟨_, _, rfl⟩
  | 6, _ => exact ⟨_, _, rfl⟩
  | 7, _ => exact ⟨_, _, rfl⟩
  | 8, _ => exact ⟨_, _, rfl⟩
  | 9, _ => exact ⟨_, _, rfl⟩
  | 10, _ => exact ⟨_, _, rfl⟩
  | 11, _ => exact ⟨_, _, rfl⟩
  | 12, _ => exact ⟨_, _, rfl⟩
  | 13, _ => exact ⟨_, _, rfl⟩
  | 14, _ => exact ⟨_, _, rfl⟩
  | 15, _ => exact ⟨_, _, rfl⟩
  | 16, _ => exact ⟨_, _, rfl⟩
  | 17, _ => exact ⟨_, _, rfl⟩
  | 18, _ => exact ⟨_, _, rfl⟩
  | 19, _ => exact ⟨_, _, rfl⟩
  | 20, _ => exact ⟨_, _, rfl⟩
  | 21, _ => exact ⟨_, _, rfl⟩
  | 22, _ => exact ⟨_, _, rfl⟩
  | 23, _ => exact ⟨_, _, rfl⟩
  | k + 24, h => omega
/-- A fault that leaves all as it was. -/
theorem bench_fault {w W : World} {g lo hi : Nat} {d r m c v o i : Value} {S : S8} (ho : OwnSt w lo hi d r m c v o i S) (hb : Below w.heap.size w W) {f : Int} (hf : f ≠ 0) : BenchEnd w g lo hi d r m c v o i S (.inl f) (.returned (.int .i64 f)) W := ⟨.of_below hb, rfl, hf, ho.keep hb⟩
set_option maxRecDepth 100000 in
set_option maxHeartbeats 1000000 in
theorem word_no (k : Int) (hk : ¬ (0 ≤ k ∧ k ≤ 23)) (d r m c v o i : Value) (S : S8) (g lo hi : Nat) (w : World) (ho : OwnSt w lo hi d r m c v o i S) :
    Calls Tryz.prog 98 #[.pointer (some ⟨g, 0, none⟩), .int .i64 k] w (BenchEnd w g lo hi d r m c v o i S (.inl 1)) := by
  have HB := Lib.hid (fun W => isbuiltin_any k W)
  rw [inB_false hk] at HB
  have HE := Lib.hid (bench_fault (g := g) ho (Below.refl _ _) (f := 1) (by decide))
  clear hk ho
  go_enter Tryz.func98, Tryz.ntmps98
  go_wp2_with fail
  refine (HB.out _).mono ?_
  rintro e w' ⟨rfl, rfl⟩
  go_wp2_with fail
  go_ret
  exact HE.out
set_option maxRecDepth 100000 in
set_option maxHeartbeats 2000000 in
theorem word_few (k : Nat) (hk : k < 24) (d r m c v o i : Value) (S : S8) (g lo hi : Nat) (w : World) (hf : S.data.length < takes8 k) (_hhi : hi ≤ w.heap.size) (ho : OwnSt w lo hi d r m c v o i S) (hB : Blk w g 152 #[d, r, .int .i32 S.a, m, c, v, o, i, .int .i64 S.fault, .int .i64 S.fuel]) (_h16 : S.data.length ≤ 16) (nm : ByteArray) (f : FuncId) (hc : primCell k = #[.string nm, .int .i64 (takes8 k), .func (.func f) #[] #[]]) :
    Calls Tryz.prog 98 #[.pointer (some ⟨g, 0, none⟩), .int .i64 (k : Int)] w (BenchEnd w g lo hi d r m c v o i S (.inl 2)) := by
  have HB := Lib.hid (fun W => isbuiltin_any (k : Int) W)
  rw [inB_true (by omega) (by omega)] at HB
  have hix := prim_index k hk
  rw [hc] at hix
  have HX := Lib.hid hix
  obtain ⟨D, dc, rfl⟩ := own_form ho.d
  have HO := Lib.hid ho
  have KB := Lib.hid hB
  obtain ⟨t, htt⟩ : ∃ t : Nat, takes8 k = t := ⟨_, rfl⟩
  rw [htt] at hf hix
  obtain ⟨n, hn⟩ : ∃ n, S.data.length = n := ⟨_, rfl⟩
  have HN := Lib.hid hn
  have g1 : (n : Int) < (t : Int) := by omega
  clear ho hB hc HX hf hn
  go_enter Tryz.func98, Tryz.ntmps98
  go_wp2_with fail
  refine (HB.out _).mono ?_
  rintro e w' ⟨rfl, rfl⟩
  go_wp2_with fail
  refine (builtins_any _).mono ?_
  rintro e w1 ⟨rfl, hb⟩
  have HBB := Lib.hid hb
  have kb := KB.out.below hb KB.out.lt
  rw [HN.out] at kb
  obtain ⟨p0, p1, p2, p3, p4, p5, p6, p7, p8, p9⟩ := st_cells kb
  have lg : g < w1.heap.size := kb.lt
  have HE : Hid (∀ W, Below w1.heap.size w1 W → BenchEnd _ g lo hi _ r m c v o i S (.inl 2) (.returned (.int .i64 2)) W) := Lib.hid (fun W hW => bench_fault (g := g) HO.out (HBB.out.trans (hW.mono HBB.out.size)) (f := 2) (by decide))
  clear hb kb
  go_wp2_with fail
  go_quiet (fail)
  go_wp2_with fail
  go_ret
  exact HE.out _ (below_drewN (below_alloc _ _) _)
theorem bench_word (k : Int) (d r m c v o i : Value) (S : S8) (g lo hi : Nat) (w : World) (hok : Ok8 S) (hrg : Rng8 S) (hhi : hi ≤ w.heap.size) (hlo : lo ≤ hi) (ho : OwnSt w lo hi d r m c v o i S) (hB : Blk w g 152 #[d, r, .int .i32 S.a, m, c, v, o, i, .int .i64 S.fault, .int .i64 S.fuel]) (hp : ∀ W, Chg w W (fun k => k = g ∨ (lo ≤ k ∧ k < hi)) → Lib.TabIs Tryz.prog W "internal/strconv.uint64pow10" .u64 Lib.pow10Tab) :
    Calls Tryz.prog 98 #[.pointer (some ⟨g, 0, none⟩), .int .i64 k] w (BenchEnd w g lo hi d r m c v o i S (word8 S k)) := by
  by_cases hk : 0 ≤ k ∧ k ≤ 23
  · obtain ⟨n, rfl⟩ : ∃ n : Nat, k = n := ⟨k.toNat, by omega⟩
    have hn : n < 24 := by omega
    by_cases hf : takes8 n ≤ S.data.length
    · have e : word8 S (n : Int) = prim8 n S (top8 S 1) (top8 S 0) := by
        unfold word8
        rw [if_neg (by omega), Int.toNat_natCast, if_neg (by omega)]
      rw [e]
      have h1 : ∀ W, Below w.heap.size w W → hi ≤ W.heap.size := fun W hW => Nat.le_trans hhi hW.size
      have h2 : ∀ W, Below w.heap.size w W → OwnSt W lo hi d r m c v o i S := fun W hW => ho.keep hW
      have h3 : ∀ W, Below w.heap.size w W → Blk W g 152 #[d, r, .int .i32 S.a, m, c, v, o, i, .int .i64 S.fault, .int .i64 S.fuel] := fun W hW => hB.below hW hB.lt
      have h4 : ∀ W, Below w.heap.size w W → ∀ W2, Chg W W2 (fun k => k = g ∨ (lo ≤ k ∧ k < hi)) → Lib.TabIs Tryz.prog W2 "internal/strconv.uint64pow10" .u64 Lib.pow10Tab := fun W hW W2 hc => hp W2 ((Chg.of_below hW).trans hc)
      match n, hn, hf with
      | 0, _, hf => exact word_do_0 d r m c v o i S g lo hi w _ hf ho hB (fun W hW => prim8_0 d r m c v o i S g lo hi W hf hok hrg (h1 W hW) hlo (h2 W hW) (h3 W hW) (h4 W hW))
      | 1, _, hf => exact word_do_1 d r m c v o i S g lo hi w _ hf ho hB (fun W hW => prim8_1 d r m c v o i S g lo hi W hf hok hrg (h1 W hW) hlo (h2 W hW) (h3 W hW) (h4 W hW))
      | 2, _, hf => exact word_do_2 d r m c v o i S g lo hi w _ hf ho hB (fun W hW => prim8_2 d r m c v o i S g lo hi W hf hok hrg (h1 W hW) hlo (h2 W hW) (h3 W hW) (h4 W hW))
      | 3, _, hf => exact word_do_3 d r m c v o i S g lo hi w _ hf ho hB (fun W hW => prim8_3 d r m c v o i S g lo hi W hf hok hrg (h1 W hW) hlo (h2 W hW) (h3 W hW) (h4 W hW))
      | 4, _, hf => exact word_do_4 d r m c v o i S g lo hi w _ hf ho hB (fun W hW => prim8_4 d r m c v o i S g lo hi W hf hok hrg (h1 W hW) hlo (h2 W hW) (h3 W hW) (h4 W hW))
      | 5, _, hf => exact word_do_5 d r m c v o i S g lo hi w _ hf ho hB (fun W hW => prim8_5 d r m c v o i S g lo hi W hf hok hrg (h1 W hW) hlo (h2 W hW) (h3 W hW) (h4 W hW))
      | 6, _, hf => exact word_do_6 d r m c v o i S g lo hi w _ hf ho hB (fun W hW => prim8_6 d r m c v o i S g lo hi W hf hok hrg (h1 W hW) hlo (h2 W hW) (h3 W hW) (h4 W hW))
      | 7, _, hf => exact word_do_7 d r m c v o i S g lo hi w _ hf ho hB (fun W hW => prim8_7 d r m c v o i S g lo hi W hf hok hrg (h1 W hW) hlo (h2 W hW) (h3 W hW) (h4 W hW))
      | 8, _, hf => exact word_do_8 d r m c v o i S g lo hi w _ hf ho hB (fun W hW => prim8_8 d r m c v o i S g lo hi W hf hok hrg (h1 W hW) hlo (h2 W hW) (h3 W hW) (h4 W hW))
      | 9, _, hf => exact word_do_9 d r m c v o i S g lo hi w _ hf ho hB (fun W hW => prim8_9 d r m c v o i S g lo hi W hf hok hrg (h1 W hW) hlo (h2 W hW) (h3 W hW) (h4 W hW))
      | 10, _, hf => exact word_do_10 d r m c v o i S g lo hi w _ hf ho hB (fun W hW => prim8_10 d r m c v o i S g lo hi W hf hok hrg (h1 W hW) hlo (h2 W hW) (h3 W hW) (h4 W hW))
      | 11, _, hf => exact word_do_11 d r m c v o i S g lo hi w _ hf ho hB (fun W hW => prim8_11 d r m c v o i S g lo hi W hf hok hrg (h1 W hW) hlo (h2 W hW) (h3 W hW) (h4 W hW))
      | 12, _, hf => exact word_do_12 d r m c v o i S g lo hi w _ hf ho hB (fun W hW => prim8_12 d r m c v o i S g lo hi W hf hok hrg (h1 W hW) hlo (h2 W hW) (h3 W hW) (h4 W hW))
      | 13, _, hf => exact word_do_13 d r m c v o i S g lo hi w _ hf ho hB (fun W hW => prim8_13 d r m c v o i S g lo hi W hf hok hrg (h1 W hW) hlo (h2 W hW) (h3 W hW) (h4 W hW))
      | 14, _, hf => exact word_do_14 d r m c v o i S g lo hi w _ hf ho hB (fun W hW => prim8_14 d r m c v o i S g lo hi W hf hok hrg (h1 W hW) hlo (h2 W hW) (h3 W hW) (h4 W hW))
      | 15, _, hf => exact word_do_15 d r m c v o i S g lo hi w _ hf ho hB (fun W hW => prim8_15 d r m c v o i S g lo hi W hf hok hrg (h1 W hW) hlo (h2 W hW) (h3 W hW) (h4 W hW))
      | 16, _, hf => exact word_do_16 d r m c v o i S g lo hi w _ hf ho hB (fun W hW => prim8_16 d r m c v o i S g lo hi W hf hok hrg (h1 W hW) hlo (h2 W hW) (h3 W hW) (h4 W hW))
      | 17, _, hf => exact word_do_17 d r m c v o i S g lo hi w _ hf ho hB (fun W hW => prim8_17 d r m c v o i S g lo hi W hf hok hrg (h1 W hW) hlo (h2 W hW) (h3 W hW) (h4 W hW))
      | 18, _, hf => exact word_do_18 d r m c v o i S g lo hi w _ hf ho hB (fun W hW => prim8_18 d r m c v o i S g lo hi W hf hok hrg (h1 W hW) hlo (h2 W hW) (h3 W hW) (h4 W hW))
      | 19, _, hf => exact word_do_19 d r m c v o i S g lo hi w _ hf ho hB (fun W hW => prim8_19 d r m c v o i S g lo hi W hf hok hrg (h1 W hW) hlo (h2 W hW) (h3 W hW) (h4 W hW))
      | 20, _, hf => exact word_do_20 d r m c v o i S g lo hi w _ hf ho hB (fun W hW => prim8_20 d r m c v o i S g lo hi W hf hok hrg (h1 W hW) hlo (h2 W hW) (h3 W hW) (h4 W hW))
      | 21, _, hf => exact word_do_21 d r m c v o i S g lo hi w _ hf ho hB (fun W hW => prim8_21 d r m c v o i S g lo hi W hf hok hrg (h1 W hW) hlo (h2 W hW) (h3 W hW) (h4 W hW))
      | 22, _, hf => exact word_do_22 d r m c v o i S g lo hi w _ hf ho hB (fun W hW => prim8_22 d r m c v o i S g lo hi W hf hok hrg (h1 W hW) hlo (h2 W hW) (h3 W hW) (h4 W hW))
      | 23, _, hf => exact word_do_23 d r m c v o i S g lo hi w _ hf ho hB (fun W hW => prim8_23 d r m c v o i S g lo hi W hf hok hrg (h1 W hW) hlo (h2 W hW) (h3 W hW) (h4 W hW))
      | k + 24, h, _ => omega
    · have e : word8 S (n : Int) = .inl 2 := by
        unfold word8
        rw [if_neg (by omega), Int.toNat_natCast, if_pos (by omega)]
      rw [e]
      obtain ⟨t, f, hc⟩ := prim_cell n hn
      exact word_few n hn d r m c v o i S g lo hi w (by omega) hhi ho hB hok.data t f hc
  · have e : word8 S k = .inl 1 := by
      unfold word8
      rw [if_pos (by omega)]
    rw [e]
    exact word_no k hk d r m c v o i S g lo hi w ho
end Go.Proofs.YtdiaiflleiebfaaGreatDoor

namespace Go.Proofs.YtdiaiflleiebfaaGreatDoor
open Go.RowKit Go

set_option maxRecDepth 100000 in
set_option maxHeartbeats 2500000 in
theorem done_one (d r m c v o i : Value) (S : S8) (k : Int) (g b lo hi : Nat) (w : World) (hok : Ok8 S) (hrg : Rng8 S) (hhi : hi ≤ w.heap.size) (hlo : lo ≤ hi) (ho : OwnSt w lo hi d r m c v o i S) (hB : Blk w g 152 #[d, r, .int .i32 S.a, m, c, v, o, i, .int .i64 S.fault, .int .i64 S.fuel]) (hp : ∀ W, Chg w W (fun k => k = g ∨ (lo ≤ k ∧ k < hi)) → Lib.TabIs Tryz.prog W "internal/strconv.uint64pow10" .u64 Lib.pow10Tab) (hc : w.cell? ⟨b, 0, none⟩ = some (.int .i64 k)) :
    Calls Tryz.prog 97 #[.pointer (some ⟨g, 0, none⟩), .pointer (some ⟨b, 0, none⟩)] w (BenchEnd w g lo hi d r m c v o i S (word8 S k)) := by
  have HW := Lib.hid (bench_word k d r m c v o i S g lo hi w hok hrg hhi hlo ho hB hp)
  clear hok hrg hhi hlo ho hB hp
  go_enter Tryz.func97, Tryz.ntmps97
  go_wp2_with fail
  refine HW.out.mono ?_
  intro e w1 hE
  obtain ⟨u, rfl⟩ := hE.ret
  have HE := Lib.hid hE
  clear hE HW
  go_wp2_with fail
  go_ret
  exact HE.out
end Go.Proofs.YtdiaiflleiebfaaGreatDoor

namespace Go.Proofs.YtdiaiflleiebfaaGreatDoor
open Go.RowKit Go

set_option maxRecDepth 100000 in
set_option maxHeartbeats 3000000 in
theorem done_any (d r m c v o i : Value) (S : S8) (k : Int) (lo hi : Nat) (w : World) (hok : Ok8 S) (hrg : Rng8 S) (ho : OwnSt w lo hi d r m c v o i S) (hs : totSt S ≤ 2500000) (hhi : hi ≤ w.heap.size) (hlo : lo ≤ hi) (hp : ∀ W, Chg w W (fun k => lo ≤ k ∧ k < hi) → Lib.TabIs Tryz.prog W "internal/strconv.uint64pow10" .u64 Lib.pow10Tab) :
    Calls Tryz.prog 35 #[.agg #[d, r, .int .i32 S.a, m, c, v, o, i, .int .i64 S.fault, .int .i64 S.fuel], .int .i64 k] w (TriedEnd w lo hi (if S.fault = 0 then fin8 S (word8 S k) else S)) := by
  obtain ⟨⟨A0, a0, rfl⟩, ⟨A1, a1, rfl⟩, ⟨A2, a2, rfl⟩, ⟨A3, a3, rfl⟩, ⟨A4, a4, rfl⟩, ⟨A5, a5, rfl⟩, ⟨A6, a6, rfl⟩⟩ := ho.form (by omega)
  have KR : Hid (Blk (((w.alloc (.cells #[.slice A0 S.data.length a0, .slice A1 S.ret.length a1, .int .i32 S.a, .slice A2 S.mem.length a2, .slice A3 S.cells.length a3, .slice A4 S.vars.length a4, .slice A5 S.out.length a5, .slice A6 S.inp.length a6, .int .i64 S.fault, .int .i64 S.fuel] 29)).alloc (.cells #[.int .i64 k] 3)).alloc (.cells #[.slice none 0 0, .slice none 0 0, .int .i32 0, .slice none 0 0, .slice none 0 0, .slice none 0 0, .slice none 0 0, .slice none 0 0, .int .i64 0, .int .i64 0] 29)) (w.heap.size + 1 + 1) 29 #[.slice none 0 0, .slice none 0 0, .int .i32 0, .slice none 0 0, .slice none 0 0, .slice none 0 0, .slice none 0 0, .slice none 0 0, .int .i64 0, .int .i64 0]) := Lib.hid (by have := Blk.new ((w.alloc (.cells #[.slice A0 S.data.length a0, .slice A1 S.ret.length a1, .int .i32 S.a, .slice A2 S.mem.length a2, .slice A3 S.cells.length a3, .slice A4 S.vars.length a4, .slice A5 S.out.length a5, .slice A6 S.inp.length a6, .int .i64 S.fault, .int .i64 S.fuel] 29)).alloc (.cells #[.int .i64 k] 3)) 29 #[.slice none 0 0, .slice none 0 0, .int .i32 0, .slice none 0 0, .slice none 0 0, .slice none 0 0, .slice none 0 0, .slice none 0 0, .int .i64 0, .int .i64 0]; rw [show ((w.alloc (.cells #[.slice A0 S.data.length a0, .slice A1 S.ret.length a1, .int .i32 S.a, .slice A2 S.mem.length a2, .slice A3 S.cells.length a3, .slice A4 S.vars.length a4, .slice A5 S.out.length a5, .slice A6 S.inp.length a6, .int .i64 S.fault, .int .i64 S.fuel] 29)).alloc (.cells #[.int .i64 k] 3)).heap.size = w.heap.size + 1 + 1 by simp] at this; exact this)
  have hB0 : Below w.heap.size w (((w.alloc (.cells #[.slice A0 S.data.length a0, .slice A1 S.ret.length a1, .int .i32 S.a, .slice A2 S.mem.length a2, .slice A3 S.cells.length a3, .slice A4 S.vars.length a4, .slice A5 S.out.length a5, .slice A6 S.inp.length a6, .int .i64 S.fault, .int .i64 S.fuel] 29)).alloc (.cells #[.int .i64 k] 3)).alloc (.cells #[.slice none 0 0, .slice none 0 0, .int .i32 0, .slice none 0 0, .slice none 0 0, .slice none 0 0, .slice none 0 0, .slice none 0 0, .int .i64 0, .int .i64 0] 29)) := below_alloc3 w _ _ _
  have B0 := Lib.hid hB0
  have HZ0 : Hid ((((w.alloc (.cells #[.slice A0 S.data.length a0, .slice A1 S.ret.length a1, .int .i32 S.a, .slice A2 S.mem.length a2, .slice A3 S.cells.length a3, .slice A4 S.vars.length a4, .slice A5 S.out.length a5, .slice A6 S.inp.length a6, .int .i64 S.fault, .int .i64 S.fuel] 29)).alloc (.cells #[.int .i64 k] 3)).alloc (.cells #[.slice none 0 0, .slice none 0 0, .int .i32 0, .slice none 0 0, .slice none 0 0, .slice none 0 0, .slice none 0 0, .slice none 0 0, .int .i64 0, .int .i64 0] 29)).heap.size = w.heap.size + 3) := Lib.hid (by simp)
  have HO : Hid (OwnSt (((w.alloc (.cells #[.slice A0 S.data.length a0, .slice A1 S.ret.length a1, .int .i32 S.a, .slice A2 S.mem.length a2, .slice A3 S.cells.length a3, .slice A4 S.vars.length a4, .slice A5 S.out.length a5, .slice A6 S.inp.length a6, .int .i64 S.fault, .int .i64 S.fuel] 29)).alloc (.cells #[.int .i64 k] 3)).alloc (.cells #[.slice none 0 0, .slice none 0 0, .int .i32 0, .slice none 0 0, .slice none 0 0, .slice none 0 0, .slice none 0 0, .slice none 0 0, .int .i64 0, .int .i64 0] 29)) lo hi (.slice A0 S.data.length a0) (.slice A1 S.ret.length a1) (.slice A2 S.mem.length a2) (.slice A3 S.cells.length a3) (.slice A4 S.vars.length a4) (.slice A5 S.out.length a5) (.slice A6 S.inp.length a6) S) := Lib.hid (((ho.alloc _).alloc _).alloc _)
  have hcell : (((w.alloc (.cells #[.slice A0 S.data.length a0, .slice A1 S.ret.length a1, .int .i32 S.a, .slice A2 S.mem.length a2, .slice A3 S.cells.length a3, .slice A4 S.vars.length a4, .slice A5 S.out.length a5, .slice A6 S.inp.length a6, .int .i64 S.fault, .int .i64 S.fuel] 29)).alloc (.cells #[.int .i64 k] 3)).alloc (.cells #[.slice none 0 0, .slice none 0 0, .int .i32 0, .slice none 0 0, .slice none 0 0, .slice none 0 0, .slice none 0 0, .slice none 0 0, .int .i64 0, .int .i64 0] 29)).cell? ⟨w.heap.size + 1, 0, none⟩ = some (.int .i64 k) := by
    have h1 := ((Blk.new (w.alloc (.cells #[.slice A0 S.data.length a0, .slice A1 S.ret.length a1, .int .i32 S.a, .slice A2 S.mem.length a2, .slice A3 S.cells.length a3, .slice A4 S.vars.length a4, .slice A5 S.out.length a5, .slice A6 S.inp.length a6, .int .i64 S.fault, .int .i64 S.fuel] 29)) 3 #[.int .i64 k]).alloc (.cells #[.slice none 0 0, .slice none 0 0, .int .i32 0, .slice none 0 0, .slice none 0 0, .slice none 0 0, .slice none 0 0, .slice none 0 0, .int .i64 0, .int .i64 0] 29)).cell 0
    rw [show (w.alloc (.cells #[.slice A0 S.data.length a0, .slice A1 S.ret.length a1, .int .i32 S.a, .slice A2 S.mem.length a2, .slice A3 S.cells.length a3, .slice A4 S.vars.length a4, .slice A5 S.out.length a5, .slice A6 S.inp.length a6, .int .i64 S.fault, .int .i64 S.fuel] 29)).heap.size = w.heap.size + 1 by simp] at h1
    exact h1
  obtain ⟨T, hT⟩ : ∃ T, (if S.fault = 0 then fin8 S (word8 S k) else S) = T := ⟨_, rfl⟩
  have HTT : Hid (totSt T ≤ 4000000) := Lib.hid (by
    rw [← hT]
    split
    · exact (word8_tot hs)
    · omega)
  have HTR : Hid (Calls Tryz.prog 96 #[.agg #[.slice A0 S.data.length a0, .slice A1 S.ret.length a1, .int .i32 S.a, .slice A2 S.mem.length a2, .slice A3 S.cells.length a3, .slice A4 S.vars.length a4, .slice A5 S.out.length a5, .slice A6 S.inp.length a6, .int .i64 S.fault, .int .i64 S.fuel], .func (.func 97) #[] #[.pointer (some ⟨w.heap.size + 1, 0, none⟩)]] (((w.alloc (.cells #[.slice A0 S.data.length a0, .slice A1 S.ret.length a1, .int .i32 S.a, .slice A2 S.mem.length a2, .slice A3 S.cells.length a3, .slice A4 S.vars.length a4, .slice A5 S.out.length a5, .slice A6 S.inp.length a6, .int .i64 S.fault, .int .i64 S.fuel] 29)).alloc (.cells #[.int .i64 k] 3)).alloc (.cells #[.slice none 0 0, .slice none 0 0, .int .i32 0, .slice none 0 0, .slice none 0 0, .slice none 0 0, .slice none 0 0, .slice none 0 0, .int .i64 0, .int .i64 0] 29)) (TriedEnd (((w.alloc (.cells #[.slice A0 S.data.length a0, .slice A1 S.ret.length a1, .int .i32 S.a, .slice A2 S.mem.length a2, .slice A3 S.cells.length a3, .slice A4 S.vars.length a4, .slice A5 S.out.length a5, .slice A6 S.inp.length a6, .int .i64 S.fault, .int .i64 S.fuel] 29)).alloc (.cells #[.int .i64 k] 3)).alloc (.cells #[.slice none 0 0, .slice none 0 0, .int .i32 0, .slice none 0 0, .slice none 0 0, .slice none 0 0, .slice none 0 0, .slice none 0 0, .int .i64 0, .int .i64 0] 29)) lo hi T)) := Lib.hid (by
    rw [← hT]
    have hh : hi ≤ (((w.alloc (.cells #[.slice A0 S.data.length a0, .slice A1 S.ret.length a1, .int .i32 S.a, .slice A2 S.mem.length a2, .slice A3 S.cells.length a3, .slice A4 S.vars.length a4, .slice A5 S.out.length a5, .slice A6 S.inp.length a6, .int .i64 S.fault, .int .i64 S.fuel] 29)).alloc (.cells #[.int .i64 k] 3)).alloc (.cells #[.slice none 0 0, .slice none 0 0, .int .i32 0, .slice none 0 0, .slice none 0 0, .slice none 0 0, .slice none 0 0, .slice none 0 0, .int .i64 0, .int .i64 0] 29)).heap.size := Nat.le_trans hhi hB0.size
    by_cases hf : S.fault = 0
    · rw [if_pos hf]
      exact tried_do _ _ _ _ _ _ _ S (word8 S k) (word8_tot hs) (.int .i64 k) (w.heap.size + 1) lo hi _ HO.out (by omega) hh hlo hf hcell (fun W g h1 h2 h3 h4 h5 h6 => done_one _ _ _ _ _ _ _ S k g _ lo hi W hok hrg h3 hlo h2 h1 (fun W2 h7 => hp W2 (chg_far (hB0.trans (h5.mono hB0.size)) (Nat.le_trans hB0.size h6) h7)) h4)
    · rw [if_neg hf]
      exact tried_do_fault _ _ _ _ _ _ _ S (w.heap.size + 1) lo hi _ HO.out (by omega) hh hlo hf)
  rw [hT]
  have HH := Lib.hid hhi
  clear hT ho hs hhi hlo hB0 hcell HO hok hrg hp
  go_enter Tryz.func35, Tryz.ntmps35
  go_wp2_with fail
  refine HTR.out.mono ?_
  rintro e w1 ⟨v0, v1, v2, v3, v4, v5, v6, rfl, ho1, hch⟩
  have sz1 : w.heap.size + 3 ≤ w1.heap.size := by have := hch.size; rw [HZ0.out] at this; exact this
  have kr1 := hch.blk KR.out (g := w.heap.size + 1 + 1) (by have := HH.out; omega)
  have hch1 : Chg w w1 (fun k => lo ≤ k ∧ k < hi) := (Chg.of_below B0.out).trans hch
  obtain ⟨⟨C0, c0, rfl⟩, ⟨C1, c1, rfl⟩, ⟨C2, c2, rfl⟩, ⟨C3, c3, rfl⟩, ⟨C4, c4, rfl⟩, ⟨C5, c5, rfl⟩, ⟨C6, c6, rfl⟩⟩ := ho1.form HTT.out
  obtain ⟨n0, n1, n2, n3, n4, n5, n6, n7, n8, n9⟩ := st_cells kr1
  have fz1 := kr1.frozen
  have KRZ := Lib.hid kr1
  have OZ := Lib.hid ho1
  have BZ := Lib.hid hch1
  clear hch kr1 hch1 ho1 HTR KR B0
  go_wp2_with fail
  have kr := KRZ.out
  show bodyPost _ _ _ _ _ (putSt w1 (w.heap.size + 1 + 1) (.slice C0 T.data.length c0) (.slice C1 T.ret.length c1) (.int .i32 T.a) (.slice C2 T.mem.length c2) (.slice C3 T.cells.length c3) (.slice C4 T.vars.length c4) (.slice C5 T.out.length c5) (.slice C6 T.inp.length c6) (.int .i64 T.fault) (.int .i64 T.fuel))
  have y1 := putSt_blk kr (.slice C0 T.data.length c0) (.slice C1 T.ret.length c1) (.int .i32 T.a) (.slice C2 T.mem.length c2) (.slice C3 T.cells.length c3) (.slice C4 T.vars.length c4) (.slice C5 T.out.length c5) (.slice C6 T.inp.length c6) (.int .i64 T.fault) (.int .i64 T.fuel)
  have y2 : Chg w (putSt w1 (w.heap.size + 1 + 1) (.slice C0 T.data.length c0) (.slice C1 T.ret.length c1) (.int .i32 T.a) (.slice C2 T.mem.length c2) (.slice C3 T.cells.length c3) (.slice C4 T.vars.length c4) (.slice C5 T.out.length c5) (.slice C6 T.inp.length c6) (.int .i64 T.fault) (.int .i64 T.fuel)) (fun k => lo ≤ k ∧ k < hi) := Chg.putSt BZ.out (by omega) (.slice C0 T.data.length c0) (.slice C1 T.ret.length c1) (.int .i32 T.a) (.slice C2 T.mem.length c2) (.slice C3 T.cells.length c3) (.slice C4 T.vars.length c4) (.slice C5 T.out.length c5) (.slice C6 T.inp.length c6) (.int .i64 T.fault) (.int .i64 T.fuel)
  have y3 := OwnSt.atBox OZ.out kr (putSt_only w1 (w.heap.size + 1 + 1) (.slice C0 T.data.length c0) (.slice C1 T.ret.length c1) (.int .i32 T.a) (.slice C2 T.mem.length c2) (.slice C3 T.cells.length c3) (.slice C4 T.vars.length c4) (.slice C5 T.out.length c5) (.slice C6 T.inp.length c6) (.int .i64 T.fault) (.int .i64 T.fuel)) (by decide) (by decide) (by decide) (by decide) (by decide)
  have y4 := putSt_size w1 (w.heap.size + 1 + 1) (.slice C0 T.data.length c0) (.slice C1 T.ret.length c1) (.int .i32 T.a) (.slice C2 T.mem.length c2) (.slice C3 T.cells.length c3) (.slice C4 T.vars.length c4) (.slice C5 T.out.length c5) (.slice C6 T.inp.length c6) (.int .i64 T.fault) (.int .i64 T.fuel)
  generalize putSt w1 (w.heap.size + 1 + 1) (.slice C0 T.data.length c0) (.slice C1 T.ret.length c1) (.int .i32 T.a) (.slice C2 T.mem.length c2) (.slice C3 T.cells.length c3) (.slice C4 T.vars.length c4) (.slice C5 T.out.length c5) (.slice C6 T.inp.length c6) (.int .i64 T.fault) (.int .i64 T.fuel) = W at y1 y2 y3 y4 ⊢
  obtain ⟨z0, z1, z2, z3, z4, z5, z6, z7, z8, z9⟩ := st_cells y1
  exact bodyPost_ret (v := .agg #[.slice C0 T.data.length c0, .slice C1 T.ret.length c1, .int .i32 T.a, .slice C2 T.mem.length c2, .slice C3 T.cells.length c3, .slice C4 T.vars.length c4, .slice C5 T.out.length c5, .slice C6 T.inp.length c6, .int .i64 T.fault, .int .i64 T.fuel]) (by simp [results, Tryz.results35, z0, z1, z2, z3, z4, z5, z6, z7, z8, z9, go_sem]) rfl ⟨_, _, _, _, _, _, _, rfl, by rw [y4]; exact y3, y2⟩
end Go.Proofs.YtdiaiflleiebfaaGreatDoor
