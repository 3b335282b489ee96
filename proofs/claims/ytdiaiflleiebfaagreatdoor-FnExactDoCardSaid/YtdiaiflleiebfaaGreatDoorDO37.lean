/-
  The word key on a bench.
  Each word on a bench ends as the plain function says.
-/
import Derived.Test.YtdiaiflleiebfaaGreatDoorDO21
import Derived.Test.YtdiaiflleiebfaaGreatDoorDO36
import Derived.Test.YtdiaiflleiebfaaGreatDoorDO20
import Derived.Test.YtdiaiflleiebfaaGreatDoorDO30
import Derived.Test.YtdiaiflleiebfaaGreatDoorDO31
import Derived.Test.YtdiaiflleiebfaaGreatDoorDO22
import Derived.Test.YtdiaiflleiebfaaGreatDoorDO9
import Derived.Test.YtdiaiflleiebfaaGreatDoorDO34
namespace Go.Proofs.YtdiaiflleiebfaaGreatDoor
open Go.RowKit Go

/-- The first byte of In has been read. -/
theorem key_end {w w1 : World} {g lo hi k ic b : Nat} {I : Option Addr} {d r m c v o : Value} {S : S8} {rest : List Nat} (hk : S.inp = b :: rest) (hl : rest.length = k) (ho : OwnSt w1 lo hi d r m c v o (.slice I (k + 1) ic) S) (hB : Blk w1 g 152 #[d, r, .int .i32 S.a, m, c, v, o, .slice I (k + 1) ic, .int .i64 S.fault, .int .i64 S.fuel]) (hc : Chg w w1 (fun k => k = g)) :
    let i2 := Value.slice (if ic = 1 then I else I.map (·.add 1)) k (ic - 1)
    let W := w1.setCell ⟨g, 7, none⟩ i2
    Chg w W (fun k => k = g) ∧ OwnSt W lo hi d r m c v o (.slice I (k + 1) ic) S ∧ OwnSt W lo hi d r m c v o i2 { S with inp := rest } ∧ Blk W g 152 #[d, r, .int .i32 S.a, m, c, v, o, i2, .int .i64 S.fault, .int .i64 S.fuel] := by
  intro i2 W
  have hown := ho.atBox hB (only_setCell (World.grownBy.refl _ _) (p := ⟨g, 7, none⟩) (.inl rfl) i2) (by decide) (by decide) (by decide) (by decide) (by decide)
  have e1 : S.inp.length = k + 1 := by rw [hk, List.length_cons, hl]
  have hr : TailB W lo 5 i2 k (rest.map b8v) := by
    have h1 := hown.i
    rw [e1, hk] at h1
    exact h1.drop 1 (by omega)
  have hob : ∀ q, i2.ownBlock = some q → (Value.slice I (k + 1) ic).ownBlock = some q := by
    intro q hq
    have h2 : i2.ownBlock = (Value.slice I (k + 1) ic).ownBlock := by
      show (Value.slice (if ic = 1 then I else I.map (·.add 1)) k (ic - 1)).ownBlock = _
      cases I with
      | none => split <;> rfl
      | some a => split <;> simp [Value.ownBlock, addr_addb]
    rw [← h2]; exact hq
  refine ⟨hc.set rfl _, hown, ⟨?_, hown.dm, ?_, hown.d, hown.r, hown.m, hown.c, hown.v, hown.o, ?_⟩, by have := hB.put 7 i2; simpa using this⟩
  · have ht := hown.top
    intro x hx kk hkk
    simp only [List.mem_cons, List.not_mem_nil, or_false] at hx
    rcases hx with rfl | rfl | rfl | rfl | rfl | rfl | rfl
    · exact ht _ (by simp) kk hkk
    · exact ht _ (by simp) kk hkk
    · exact ht _ (by simp) kk hkk
    · exact ht _ (by simp) kk hkk
    · exact ht _ (by simp) kk hkk
    · exact ht _ (by simp) kk hkk
    · exact ht (.slice I (k + 1) ic) (by simp) kk (hob kk hkk)
  · rcases hown.oi with h1 | h1
    · exact .inl h1
    · cases hq : o.ownBlock with
      | none => exact .inl rfl
      | some q => exact .inr fun e => h1 (by rw [hq]; exact (hob q e.symm).symm)
  · show TailB W lo _ i2 rest.length _
    rw [hl]
    exact hr
set_option maxRecDepth 100000 in
set_option maxHeartbeats 1000000 in
theorem bw_key_none (d r m c v o i : Value) (S : S8) (g lo hi : Nat) (w : World) (_ht : 0 ≤ S.data.length) (h16 : S.data.length ≤ 16) (hk : S.inp = []) (hhi : hi ≤ w.heap.size) (hlo : lo ≤ hi) (ho : OwnSt w lo hi d r m c v o i S) (hB : Blk w g 152 #[d, r, .int .i32 S.a, m, c, v, o, i, .int .i64 S.fault, .int .i64 S.fuel]) :
    Calls Tryz.prog 132 #[.pointer (some ⟨g, 0, none⟩)] w (BenchEnd w g lo hi d r m c v o i S (put8 S 0 [-1])) := by
  obtain ⟨A, cap, rfl⟩ := own_form ho.d
  have hi0 := ho.i
  obtain ⟨I, ic, hI⟩ := tail_form hi0
  rw [hk] at hI
  subst hI
  have T0 := Lib.hid (Taken.start hhi hlo ho hB)
  obtain ⟨p0, p1, p2, p3, p4, p5, p6, p7, p8, p9⟩ := st_cells hB
  have HH := Lib.hid (tell_end (t := 0) (l := [-1]) T0.out (Nat.sub_zero _) h16 (by simp) (fun _ => same_add rfl))
  clear T0 ho hB hhi hlo _ht h16 hk hi0
  go_enter Tryz.func132, Tryz.ntmps132
  go_wp2_with fail
  refine HH.out.mono ?_
  intro e w9 hE
  obtain ⟨u, rfl⟩ := hE.ret
  have HE := Lib.hid hE
  clear hE
  go_wp2_with fail
  go_ret
  exact HE.out
set_option maxRecDepth 100000 in
set_option maxHeartbeats 1000000 in
theorem bw_key_some (d r m c v o i : Value) (S : S8) (g lo hi : Nat) (w : World) (_ht : 0 ≤ S.data.length) (h16 : S.data.length ≤ 16) (b : Nat) (rest : List Nat) (hk : S.inp = b :: rest) (h100 : S.inp.length ≤ 1000) (hb : b < 256) (hhi : hi ≤ w.heap.size) (hlo : lo ≤ hi) (ho : OwnSt w lo hi d r m c v o i S) (hB : Blk w g 152 #[d, r, .int .i32 S.a, m, c, v, o, i, .int .i64 S.fault, .int .i64 S.fuel]) :
    Calls Tryz.prog 132 #[.pointer (some ⟨g, 0, none⟩)] w (BenchEnd w g lo hi d r m c v o i S (put8 { S with inp := rest } 0 [(b : Int)])) := by
  obtain ⟨A, cap, rfl⟩ := own_form ho.d
  have hi0 := ho.i
  obtain ⟨I, ic, hI⟩ := tail_form hi0
  obtain ⟨k, hl⟩ : ∃ k, rest.length = k := ⟨_, rfl⟩
  have e1 : S.inp.length = k + 1 := by rw [hk, List.length_cons, hl]
  rw [e1] at hI
  subst hI
  have hfz := hB.frozen
  have T0 := Lib.hid (Taken.start hhi hlo ho hB)
  have hrd := RdM.of_tail hi0 (by omega)
  rw [hk] at hrd
  obtain ⟨I2, ic2, eI, -, hcells⟩ := hrd
  obtain ⟨a, eA, ha, hca⟩ := hcells 0 (by simp)
  have hic : k + 1 ≤ ic := by
    rw [e1] at hi0
    rcases hi0.2 with ⟨h1, -⟩ | ⟨g1, s1, cp, cur, h1, -, -, h2, -⟩
    · injection h1 with h1 h2 h3; omega
    · injection h1 with h1 h3 h4; omega
  injection eI with eI1 eI2 eI3
  subst eA
  subst eI1
  obtain ⟨c1, c2, c3, c4⟩ := key_end hk hl T0.out.own T0.out.box T0.out.chg
  have HH := Lib.hid (tell_end2 (S := S) (S2 := { S with inp := rest }) (l := [(b : Int)]) c1 hhi hlo rfl rfl c2 c3 c4 h16 (by simp))
  have hz : a.add 0 = a := by simp [Addr.add]
  rw [hz] at hca
  have hcb : w.cell? a = some (.int .u8 (b : Int)) := hca
  obtain ⟨p0, p1, p2, p3, p4, p5, p6, p7, p8, p9⟩ := st_cells hB
  have f0 := hfz 7
  have hg : g < w.heap.size := hB.lt
  have b1 : (b : Int) < 256 := by omega
  have b2 : (0 : Int) ≤ (b : Int) := by omega
  have hkk : k ≤ 1000 := by omega
  have hne : ((k : Int) + 1 == 0) = false := by simp; omega
  have i1 : (1 : Int) ≤ (k : Int) + 1 := by omega
  have i2 : (0 : Int) < (k : Int) + 1 := by omega
  clear T0 c1 c2 c3 c4 ho hB hhi hlo _ht h16 hk hi0 hcells hca hfz h100 hz e1 hl ha eI2 eI3
  by_cases hi1 : ic = 1
  · subst hi1
    obtain rfl : k = 0 := by omega
    rw [if_pos rfl] at HH
    clear hic
    go_enter Tryz.func132, Tryz.ntmps132
    go_wp2_with fail
    have HH2 := HH.out
    rw [World.size_setCell] at HH2
    refine HH2.mono ?_
    intro e w9 hE
    obtain ⟨u, rfl⟩ := hE.ret
    have HE := Lib.hid hE
    clear hE
    go_wp2_with fail
    go_ret
    exact HE.out
  · rw [if_neg hi1] at HH
    go_enter Tryz.func132, Tryz.ntmps132
    go_wp2_with fail
    have HH2 := HH.out
    rw [World.size_setCell] at HH2
    refine HH2.mono ?_
    intro e w9 hE
    obtain ⟨u, rfl⟩ := hE.ret
    have HE := Lib.hid hE
    clear hE
    go_wp2_with fail
    go_ret
    exact HE.out
end Go.Proofs.YtdiaiflleiebfaaGreatDoor

namespace Go.Proofs.YtdiaiflleiebfaaGreatDoor
open Go.RowKit Go

theorem prim8_0 (d r m c v o i : Value) (S : S8) (g lo hi : Nat) (w : World) (ht : 1 ≤ S.data.length) (hok : Ok8 S) (hrg : Rng8 S) (hhi : hi ≤ w.heap.size) (hlo : lo ≤ hi) (ho : OwnSt w lo hi d r m c v o i S) (hB : Blk w g 152 #[d, r, .int .i32 S.a, m, c, v, o, i, .int .i64 S.fault, .int .i64 S.fuel]) (hp : ∀ W, Chg w W (fun k => k = g ∨ (lo ≤ k ∧ k < hi)) → Lib.TabIs Tryz.prog W "internal/strconv.uint64pow10" .u64 Lib.pow10Tab) : Calls Tryz.prog 114 #[.pointer (some ⟨g, 0, none⟩)] w (BenchEnd w g lo hi d r m c v o i S (prim8 0 S (top8 S 1) (top8 S 0))) := by
  have _u := hrg.inp
  have _v := hp w
  exact bw_dup _ _ _ _ _ _ _ S g lo hi w ht hok.data hhi hlo ho hB
theorem prim8_1 (d r m c v o i : Value) (S : S8) (g lo hi : Nat) (w : World) (ht : 1 ≤ S.data.length) (hok : Ok8 S) (hrg : Rng8 S) (hhi : hi ≤ w.heap.size) (hlo : lo ≤ hi) (ho : OwnSt w lo hi d r m c v o i S) (hB : Blk w g 152 #[d, r, .int .i32 S.a, m, c, v, o, i, .int .i64 S.fault, .int .i64 S.fuel]) (hp : ∀ W, Chg w W (fun k => k = g ∨ (lo ≤ k ∧ k < hi)) → Lib.TabIs Tryz.prog W "internal/strconv.uint64pow10" .u64 Lib.pow10Tab) : Calls Tryz.prog 115 #[.pointer (some ⟨g, 0, none⟩)] w (BenchEnd w g lo hi d r m c v o i S (prim8 1 S (top8 S 1) (top8 S 0))) := by
  have _u := hrg.inp
  have _v := hp w
  exact bw_drop _ _ _ _ _ _ _ S g lo hi w ht hok.data hhi hlo ho hB
theorem prim8_2 (d r m c v o i : Value) (S : S8) (g lo hi : Nat) (w : World) (ht : 2 ≤ S.data.length) (hok : Ok8 S) (hrg : Rng8 S) (hhi : hi ≤ w.heap.size) (hlo : lo ≤ hi) (ho : OwnSt w lo hi d r m c v o i S) (hB : Blk w g 152 #[d, r, .int .i32 S.a, m, c, v, o, i, .int .i64 S.fault, .int .i64 S.fuel]) (hp : ∀ W, Chg w W (fun k => k = g ∨ (lo ≤ k ∧ k < hi)) → Lib.TabIs Tryz.prog W "internal/strconv.uint64pow10" .u64 Lib.pow10Tab) : Calls Tryz.prog 116 #[.pointer (some ⟨g, 0, none⟩)] w (BenchEnd w g lo hi d r m c v o i S (prim8 2 S (top8 S 1) (top8 S 0))) := by
  have _u := hrg.inp
  have _v := hp w
  exact bw_over _ _ _ _ _ _ _ S g lo hi w ht hok.data hhi hlo ho hB
theorem prim8_3 (d r m c v o i : Value) (S : S8) (g lo hi : Nat) (w : World) (ht : 2 ≤ S.data.length) (hok : Ok8 S) (hrg : Rng8 S) (hhi : hi ≤ w.heap.size) (hlo : lo ≤ hi) (ho : OwnSt w lo hi d r m c v o i S) (hB : Blk w g 152 #[d, r, .int .i32 S.a, m, c, v, o, i, .int .i64 S.fault, .int .i64 S.fuel]) (hp : ∀ W, Chg w W (fun k => k = g ∨ (lo ≤ k ∧ k < hi)) → Lib.TabIs Tryz.prog W "internal/strconv.uint64pow10" .u64 Lib.pow10Tab) : Calls Tryz.prog 117 #[.pointer (some ⟨g, 0, none⟩)] w (BenchEnd w g lo hi d r m c v o i S (prim8 3 S (top8 S 1) (top8 S 0))) := by
  have _u := hrg.inp
  have _v := hp w
  exact bw_nip _ _ _ _ _ _ _ S g lo hi w ht hok.data hhi hlo ho hB
theorem prim8_4 (d r m c v o i : Value) (S : S8) (g lo hi : Nat) (w : World) (ht : 2 ≤ S.data.length) (hok : Ok8 S) (hrg : Rng8 S) (hhi : hi ≤ w.heap.size) (hlo : lo ≤ hi) (ho : OwnSt w lo hi d r m c v o i S) (hB : Blk w g 152 #[d, r, .int .i32 S.a, m, c, v, o, i, .int .i64 S.fault, .int .i64 S.fuel]) (hp : ∀ W, Chg w W (fun k => k = g ∨ (lo ≤ k ∧ k < hi)) → Lib.TabIs Tryz.prog W "internal/strconv.uint64pow10" .u64 Lib.pow10Tab) : Calls Tryz.prog 118 #[.pointer (some ⟨g, 0, none⟩)] w (BenchEnd w g lo hi d r m c v o i S (prim8 4 S (top8 S 1) (top8 S 0))) := by
  have _u := hrg.inp
  have _v := hp w
  exact bw_swap _ _ _ _ _ _ _ S g lo hi w ht hok.data hhi hlo ho hB
theorem prim8_5 (d r m c v o i : Value) (S : S8) (g lo hi : Nat) (w : World) (ht : 2 ≤ S.data.length) (hok : Ok8 S) (hrg : Rng8 S) (hhi : hi ≤ w.heap.size) (hlo : lo ≤ hi) (ho : OwnSt w lo hi d r m c v o i S) (hB : Blk w g 152 #[d, r, .int .i32 S.a, m, c, v, o, i, .int .i64 S.fault, .int .i64 S.fuel]) (hp : ∀ W, Chg w W (fun k => k = g ∨ (lo ≤ k ∧ k < hi)) → Lib.TabIs Tryz.prog W "internal/strconv.uint64pow10" .u64 Lib.pow10Tab) : Calls Tryz.prog 119 #[.pointer (some ⟨g, 0, none⟩)] w (BenchEnd w g lo hi d r m c v o i S (prim8 5 S (top8 S 1) (top8 S 0))) := by
  have _u := hrg.inp
  have _v := hp w
  exact bw_add _ _ _ _ _ _ _ S g lo hi w ht hok.data hhi hlo ho hB
theorem prim8_6 (d r m c v o i : Value) (S : S8) (g lo hi : Nat) (w : World) (ht : 1 ≤ S.data.length) (hok : Ok8 S) (hrg : Rng8 S) (hhi : hi ≤ w.heap.size) (hlo : lo ≤ hi) (ho : OwnSt w lo hi d r m c v o i S) (hB : Blk w g 152 #[d, r, .int .i32 S.a, m, c, v, o, i, .int .i64 S.fault, .int .i64 S.fuel]) (hp : ∀ W, Chg w W (fun k => k = g ∨ (lo ≤ k ∧ k < hi)) → Lib.TabIs Tryz.prog W "internal/strconv.uint64pow10" .u64 Lib.pow10Tab) : Calls Tryz.prog 120 #[.pointer (some ⟨g, 0, none⟩)] w (BenchEnd w g lo hi d r m c v o i S (prim8 6 S (top8 S 1) (top8 S 0))) := by
  have _u := hrg.inp
  have _v := hp w
  exact bw_turn _ _ _ _ _ _ _ S g lo hi w ht hok.data (hrg.top 0) hhi hlo ho hB
theorem prim8_7 (d r m c v o i : Value) (S : S8) (g lo hi : Nat) (w : World) (ht : 2 ≤ S.data.length) (hok : Ok8 S) (hrg : Rng8 S) (hhi : hi ≤ w.heap.size) (hlo : lo ≤ hi) (ho : OwnSt w lo hi d r m c v o i S) (hB : Blk w g 152 #[d, r, .int .i32 S.a, m, c, v, o, i, .int .i64 S.fault, .int .i64 S.fuel]) (hp : ∀ W, Chg w W (fun k => k = g ∨ (lo ≤ k ∧ k < hi)) → Lib.TabIs Tryz.prog W "internal/strconv.uint64pow10" .u64 Lib.pow10Tab) : Calls Tryz.prog 121 #[.pointer (some ⟨g, 0, none⟩)] w (BenchEnd w g lo hi d r m c v o i S (prim8 7 S (top8 S 1) (top8 S 0))) := by
  have _u := hrg.inp
  have _v := hp w
  exact bw_mul _ _ _ _ _ _ _ S g lo hi w ht hok.data hhi hlo ho hB
theorem prim8_8 (d r m c v o i : Value) (S : S8) (g lo hi : Nat) (w : World) (ht : 2 ≤ S.data.length) (hok : Ok8 S) (hrg : Rng8 S) (hhi : hi ≤ w.heap.size) (hlo : lo ≤ hi) (ho : OwnSt w lo hi d r m c v o i S) (hB : Blk w g 152 #[d, r, .int .i32 S.a, m, c, v, o, i, .int .i64 S.fault, .int .i64 S.fuel]) (hp : ∀ W, Chg w W (fun k => k = g ∨ (lo ≤ k ∧ k < hi)) → Lib.TabIs Tryz.prog W "internal/strconv.uint64pow10" .u64 Lib.pow10Tab) : Calls Tryz.prog 122 #[.pointer (some ⟨g, 0, none⟩)] w (BenchEnd w g lo hi d r m c v o i S (prim8 8 S (top8 S 1) (top8 S 0))) := by
  have _u := hrg.inp
  have _v := hp w
  exact bw_and _ _ _ _ _ _ _ S g lo hi w ht hok.data hhi hlo ho hB
theorem prim8_9 (d r m c v o i : Value) (S : S8) (g lo hi : Nat) (w : World) (ht : 2 ≤ S.data.length) (hok : Ok8 S) (hrg : Rng8 S) (hhi : hi ≤ w.heap.size) (hlo : lo ≤ hi) (ho : OwnSt w lo hi d r m c v o i S) (hB : Blk w g 152 #[d, r, .int .i32 S.a, m, c, v, o, i, .int .i64 S.fault, .int .i64 S.fuel]) (hp : ∀ W, Chg w W (fun k => k = g ∨ (lo ≤ k ∧ k < hi)) → Lib.TabIs Tryz.prog W "internal/strconv.uint64pow10" .u64 Lib.pow10Tab) : Calls Tryz.prog 123 #[.pointer (some ⟨g, 0, none⟩)] w (BenchEnd w g lo hi d r m c v o i S (prim8 9 S (top8 S 1) (top8 S 0))) := by
  have _u := hrg.inp
  have _v := hp w
  exact bw_or _ _ _ _ _ _ _ S g lo hi w ht hok.data hhi hlo ho hB
theorem prim8_10 (d r m c v o i : Value) (S : S8) (g lo hi : Nat) (w : World) (ht : 1 ≤ S.data.length) (hok : Ok8 S) (hrg : Rng8 S) (hhi : hi ≤ w.heap.size) (hlo : lo ≤ hi) (ho : OwnSt w lo hi d r m c v o i S) (hB : Blk w g 152 #[d, r, .int .i32 S.a, m, c, v, o, i, .int .i64 S.fault, .int .i64 S.fuel]) (hp : ∀ W, Chg w W (fun k => k = g ∨ (lo ≤ k ∧ k < hi)) → Lib.TabIs Tryz.prog W "internal/strconv.uint64pow10" .u64 Lib.pow10Tab) : Calls Tryz.prog 124 #[.pointer (some ⟨g, 0, none⟩)] w (BenchEnd w g lo hi d r m c v o i S (prim8 10 S (top8 S 1) (top8 S 0))) := by
  have _u := hrg.inp
  have _v := hp w
  exact bw_double _ _ _ _ _ _ _ S g lo hi w ht hok.data hhi hlo ho hB
theorem prim8_11 (d r m c v o i : Value) (S : S8) (g lo hi : Nat) (w : World) (ht : 1 ≤ S.data.length) (hok : Ok8 S) (hrg : Rng8 S) (hhi : hi ≤ w.heap.size) (hlo : lo ≤ hi) (ho : OwnSt w lo hi d r m c v o i S) (hB : Blk w g 152 #[d, r, .int .i32 S.a, m, c, v, o, i, .int .i64 S.fault, .int .i64 S.fuel]) (hp : ∀ W, Chg w W (fun k => k = g ∨ (lo ≤ k ∧ k < hi)) → Lib.TabIs Tryz.prog W "internal/strconv.uint64pow10" .u64 Lib.pow10Tab) : Calls Tryz.prog 125 #[.pointer (some ⟨g, 0, none⟩)] w (BenchEnd w g lo hi d r m c v o i S (prim8 11 S (top8 S 1) (top8 S 0))) := by
  have _u := hrg.inp
  have _v := hp w
  exact bw_halve _ _ _ _ _ _ _ S g lo hi w ht hok.data hhi hlo ho hB
theorem prim8_12 (d r m c v o i : Value) (S : S8) (g lo hi : Nat) (w : World) (ht : 2 ≤ S.data.length) (hok : Ok8 S) (hrg : Rng8 S) (hhi : hi ≤ w.heap.size) (hlo : lo ≤ hi) (ho : OwnSt w lo hi d r m c v o i S) (hB : Blk w g 152 #[d, r, .int .i32 S.a, m, c, v, o, i, .int .i64 S.fault, .int .i64 S.fuel]) (hp : ∀ W, Chg w W (fun k => k = g ∨ (lo ≤ k ∧ k < hi)) → Lib.TabIs Tryz.prog W "internal/strconv.uint64pow10" .u64 Lib.pow10Tab) : Calls Tryz.prog 126 #[.pointer (some ⟨g, 0, none⟩)] w (BenchEnd w g lo hi d r m c v o i S (prim8 12 S (top8 S 1) (top8 S 0))) := by
  have _u := hrg.inp
  have _v := hp w
  by_cases h0 : top8 S 0 = 0
  · rw [show prim8 12 S (top8 S 1) (top8 S 0) = .inl 5 by unfold prim8; simp [h0]]
    exact bw_divide_zero _ _ _ _ _ _ _ S g lo hi w ht hok.data h0 hhi hlo ho hB
  · rw [show prim8 12 S (top8 S 1) (top8 S 0) = put8 S 2 [(top8 S 1).tmod (top8 S 0), wrap32 ((top8 S 1).tdiv (top8 S 0))] by unfold prim8; simp [h0]]
    exact bw_divide_num _ _ _ _ _ _ _ S g lo hi w ht hok.data h0 hhi hlo ho hB
theorem prim8_13 (d r m c v o i : Value) (S : S8) (g lo hi : Nat) (w : World) (ht : 1 ≤ S.data.length) (hok : Ok8 S) (hrg : Rng8 S) (hhi : hi ≤ w.heap.size) (hlo : lo ≤ hi) (ho : OwnSt w lo hi d r m c v o i S) (hB : Blk w g 152 #[d, r, .int .i32 S.a, m, c, v, o, i, .int .i64 S.fault, .int .i64 S.fuel]) (hp : ∀ W, Chg w W (fun k => k = g ∨ (lo ≤ k ∧ k < hi)) → Lib.TabIs Tryz.prog W "internal/strconv.uint64pow10" .u64 Lib.pow10Tab) : Calls Tryz.prog 127 #[.pointer (some ⟨g, 0, none⟩)] w (BenchEnd w g lo hi d r m c v o i S (prim8 13 S (top8 S 1) (top8 S 0))) := by
  have _u := hrg.inp
  have _v := hp w
  obtain ⟨r0, r1⟩ := hrg.top 0
  have hc := hok.cells
  by_cases h0 : 0 ≤ top8 S 0 ∧ top8 S 0 ≤ 31
  · rw [show prim8 13 S (top8 S 1) (top8 S 0) = put8 S 1 [S.mem.getD (top8 S 0).toNat 0] by unfold prim8; simp only [if_pos h0]]
    exact bw_fetch_mem _ _ _ _ _ _ _ S g lo hi w ht hok.data hok.mem (top8 S 0).toNat (by omega) (by omega) hhi hlo ho hB
  · by_cases h1 : 1024 ≤ top8 S 0 ∧ top8 S 0 < 1024 + (S.cells.length : Int)
    · rw [show prim8 13 S (top8 S 1) (top8 S 0) = put8 S 1 [wrap32 (S.cells.getD (top8 S 0 - 1024).toNat 0 : Nat)] by unfold prim8; simp only [if_neg h0, if_pos h1]]
      exact bw_fetch_cell _ _ _ _ _ _ _ S g lo hi w ht hok.data (by omega) (top8 S 0 - 1024).toNat (by omega) (by omega) hhi hlo ho hB
    · rw [show prim8 13 S (top8 S 1) (top8 S 0) = .inl 4 by unfold prim8; simp only [if_neg h0, if_neg h1]]
      by_cases h2 : top8 S 0 < 1024
      · exact bw_fetch_low _ _ _ _ _ _ _ S g lo hi w ht hok.data r0 r1 (by omega) h2 hhi hlo ho hB
      · exact bw_fetch_high _ _ _ _ _ _ _ S g lo hi w ht hok.data r0 r1 (by omega) (by omega) hhi hlo ho hB
theorem prim8_14 (d r m c v o i : Value) (S : S8) (g lo hi : Nat) (w : World) (ht : 2 ≤ S.data.length) (hok : Ok8 S) (hrg : Rng8 S) (hhi : hi ≤ w.heap.size) (hlo : lo ≤ hi) (ho : OwnSt w lo hi d r m c v o i S) (hB : Blk w g 152 #[d, r, .int .i32 S.a, m, c, v, o, i, .int .i64 S.fault, .int .i64 S.fuel]) (hp : ∀ W, Chg w W (fun k => k = g ∨ (lo ≤ k ∧ k < hi)) → Lib.TabIs Tryz.prog W "internal/strconv.uint64pow10" .u64 Lib.pow10Tab) : Calls Tryz.prog 128 #[.pointer (some ⟨g, 0, none⟩)] w (BenchEnd w g lo hi d r m c v o i S (prim8 14 S (top8 S 1) (top8 S 0))) := by
  have _u := hrg.inp
  have _v := hp w
  obtain ⟨r0, r1⟩ := hrg.top 0
  have hc := hok.cells
  by_cases h0 : 0 ≤ top8 S 0 ∧ top8 S 0 ≤ 31
  · rw [show prim8 14 S (top8 S 1) (top8 S 0) = .inr { drop8 S 2 with mem := S.mem.set (top8 S 0).toNat (top8 S 1) } by unfold prim8; simp only [if_pos h0]]
    exact bw_store_mem _ _ _ _ _ _ _ S g lo hi w ht hok.data hok.mem (top8 S 0).toNat (by omega) (by omega) hhi hlo ho hB
  · by_cases h1 : top8 S 0 - 1024 ∈ S.vars
    · rw [show prim8 14 S (top8 S 1) (top8 S 0) = .inr { drop8 S 2 with cells := S.cells.set (top8 S 0 - 1024).toNat (top8 S 1 % 4294967296).toNat } by unfold prim8; simp only [if_neg h0, if_pos h1]]
      obtain ⟨p0, p1⟩ := hok.place h1
      exact bw_store_var _ _ _ _ _ _ _ S g lo hi w ht hok.data (by omega) hok.vars (top8 S 0 - 1024).toNat (by omega) (by omega) (by rw [Int.toNat_of_nonneg p0]; exact h1) hhi hlo ho hB
    · rw [show prim8 14 S (top8 S 1) (top8 S 0) = .inl 4 by unfold prim8; simp only [if_neg h0, if_neg h1]]
      exact bw_store_none _ _ _ _ _ _ _ S g lo hi w ht hok.data hok.vars r0 r1 (by omega) h1 hhi hlo ho hB
theorem prim8_15 (d r m c v o i : Value) (S : S8) (g lo hi : Nat) (w : World) (ht : 0 ≤ S.data.length) (hok : Ok8 S) (hrg : Rng8 S) (hhi : hi ≤ w.heap.size) (hlo : lo ≤ hi) (ho : OwnSt w lo hi d r m c v o i S) (hB : Blk w g 152 #[d, r, .int .i32 S.a, m, c, v, o, i, .int .i64 S.fault, .int .i64 S.fuel]) (hp : ∀ W, Chg w W (fun k => k = g ∨ (lo ≤ k ∧ k < hi)) → Lib.TabIs Tryz.prog W "internal/strconv.uint64pow10" .u64 Lib.pow10Tab) : Calls Tryz.prog 129 #[.pointer (some ⟨g, 0, none⟩)] w (BenchEnd w g lo hi d r m c v o i S (prim8 15 S (top8 S 1) (top8 S 0))) := by
  have _u := hrg.inp
  have _v := hp w
  exact bw_tellA _ _ _ _ _ _ _ S g lo hi w ht hok.data hhi hlo ho hB
theorem prim8_16 (d r m c v o i : Value) (S : S8) (g lo hi : Nat) (w : World) (ht : 1 ≤ S.data.length) (hok : Ok8 S) (hrg : Rng8 S) (hhi : hi ≤ w.heap.size) (hlo : lo ≤ hi) (ho : OwnSt w lo hi d r m c v o i S) (hB : Blk w g 152 #[d, r, .int .i32 S.a, m, c, v, o, i, .int .i64 S.fault, .int .i64 S.fuel]) (hp : ∀ W, Chg w W (fun k => k = g ∨ (lo ≤ k ∧ k < hi)) → Lib.TabIs Tryz.prog W "internal/strconv.uint64pow10" .u64 Lib.pow10Tab) : Calls Tryz.prog 130 #[.pointer (some ⟨g, 0, none⟩)] w (BenchEnd w g lo hi d r m c v o i S (prim8 16 S (top8 S 1) (top8 S 0))) := by
  have _u := hrg.inp
  have _v := hp w
  exact bw_setA _ _ _ _ _ _ _ S g lo hi w ht hok.data hhi hlo ho hB
theorem prim8_17 (d r m c v o i : Value) (S : S8) (g lo hi : Nat) (w : World) (ht : 1 ≤ S.data.length) (hok : Ok8 S) (hrg : Rng8 S) (hhi : hi ≤ w.heap.size) (hlo : lo ≤ hi) (ho : OwnSt w lo hi d r m c v o i S) (hB : Blk w g 152 #[d, r, .int .i32 S.a, m, c, v, o, i, .int .i64 S.fault, .int .i64 S.fuel]) (hp : ∀ W, Chg w W (fun k => k = g ∨ (lo ≤ k ∧ k < hi)) → Lib.TabIs Tryz.prog W "internal/strconv.uint64pow10" .u64 Lib.pow10Tab) : Calls Tryz.prog 131 #[.pointer (some ⟨g, 0, none⟩)] w (BenchEnd w g lo hi d r m c v o i S (prim8 17 S (top8 S 1) (top8 S 0))) := by
  have _u := hrg.inp
  have _v := hp w
  exact bw_emit _ _ _ _ _ _ _ S g lo hi w ht hok.data hok.out hhi hlo ho hB
theorem prim8_18 (d r m c v o i : Value) (S : S8) (g lo hi : Nat) (w : World) (ht : 0 ≤ S.data.length) (hok : Ok8 S) (hrg : Rng8 S) (hhi : hi ≤ w.heap.size) (hlo : lo ≤ hi) (ho : OwnSt w lo hi d r m c v o i S) (hB : Blk w g 152 #[d, r, .int .i32 S.a, m, c, v, o, i, .int .i64 S.fault, .int .i64 S.fuel]) (hp : ∀ W, Chg w W (fun k => k = g ∨ (lo ≤ k ∧ k < hi)) → Lib.TabIs Tryz.prog W "internal/strconv.uint64pow10" .u64 Lib.pow10Tab) : Calls Tryz.prog 132 #[.pointer (some ⟨g, 0, none⟩)] w (BenchEnd w g lo hi d r m c v o i S (prim8 18 S (top8 S 1) (top8 S 0))) := by
  have _u := hrg.inp
  have _v := hp w
  cases hk : S.inp with
  | nil =>
    rw [show prim8 18 S (top8 S 1) (top8 S 0) = put8 S 0 [-1] by unfold prim8; simp only [hk]]
    exact bw_key_none _ _ _ _ _ _ _ S g lo hi w ht hok.data hk hhi hlo ho hB
  | cons b rest =>
    rw [show prim8 18 S (top8 S 1) (top8 S 0) = put8 { S with inp := rest } 0 [(b : Int)] by unfold prim8; simp only [hk]]
    exact bw_key_some _ _ _ _ _ _ _ S g lo hi w ht hok.data b rest hk (by have := hok.inp; omega) (hrg.inp b (by rw [hk]; simp)) hhi hlo ho hB
theorem prim8_19 (d r m c v o i : Value) (S : S8) (g lo hi : Nat) (w : World) (ht : 1 ≤ S.data.length) (hok : Ok8 S) (hrg : Rng8 S) (hhi : hi ≤ w.heap.size) (hlo : lo ≤ hi) (ho : OwnSt w lo hi d r m c v o i S) (hB : Blk w g 152 #[d, r, .int .i32 S.a, m, c, v, o, i, .int .i64 S.fault, .int .i64 S.fuel]) (hp : ∀ W, Chg w W (fun k => k = g ∨ (lo ≤ k ∧ k < hi)) → Lib.TabIs Tryz.prog W "internal/strconv.uint64pow10" .u64 Lib.pow10Tab) : Calls Tryz.prog 133 #[.pointer (some ⟨g, 0, none⟩)] w (BenchEnd w g lo hi d r m c v o i S (prim8 19 S (top8 S 1) (top8 S 0))) := by
  have _u := hrg.inp
  have _v := hp w
  rw [show prim8 19 S (top8 S 1) (top8 S 0) = slot8' S 1 [(0, top8 S 0)] from (slot8_one hok.ret _).symm]
  exact bw_push _ _ _ _ _ _ _ S g lo hi w ht hok.data hok.ret hhi hlo ho hB
theorem prim8_20 (d r m c v o i : Value) (S : S8) (g lo hi : Nat) (w : World) (ht : 0 ≤ S.data.length) (hok : Ok8 S) (hrg : Rng8 S) (hhi : hi ≤ w.heap.size) (hlo : lo ≤ hi) (ho : OwnSt w lo hi d r m c v o i S) (hB : Blk w g 152 #[d, r, .int .i32 S.a, m, c, v, o, i, .int .i64 S.fault, .int .i64 S.fuel]) (hp : ∀ W, Chg w W (fun k => k = g ∨ (lo ≤ k ∧ k < hi)) → Lib.TabIs Tryz.prog W "internal/strconv.uint64pow10" .u64 Lib.pow10Tab) : Calls Tryz.prog 134 #[.pointer (some ⟨g, 0, none⟩)] w (BenchEnd w g lo hi d r m c v o i S (prim8 20 S (top8 S 1) (top8 S 0))) := by
  have _u := hrg.inp
  have _v := hp w
  cases hl : S.ret.getLast? with
  | none =>
    rw [show prim8 20 S (top8 S 1) (top8 S 0) = .inl 3 by unfold prim8; simp only [hl]]
    exact bw_pop_none _ _ _ _ _ _ _ S g lo hi w ht hok.data (by rw [List.getLast?_eq_none_iff.1 hl]; rfl) hhi hlo ho hB
  | some tz =>
    obtain ⟨t0, z0⟩ := tz
    have hne : S.ret ≠ [] := by intro h; rw [h] at hl; cases hl
    have h0 : 0 < S.ret.length := List.length_pos_iff.2 hne
    by_cases ht0 : t0 = 0
    · rw [show prim8 20 S (top8 S 1) (top8 S 0) = put8 { S with ret := S.ret.dropLast } 0 [z0] by unfold prim8; simp only [hl, ht0, if_true]]
      exact bw_pop_num _ _ _ _ _ _ _ S g lo hi w ht hok.data hok.ret h0 t0 z0 hl (by simp [ht0]) hhi hlo ho hB
    · rw [show prim8 20 S (top8 S 1) (top8 S 0) = .inl 11 by unfold prim8; simp only [hl, if_neg ht0]]
      exact bw_pop_mix _ _ _ _ _ _ _ S g lo hi w ht hok.data hok.ret h0 t0 z0 hl (by simp [ht0]) hhi hlo ho hB
theorem prim8_21 (d r m c v o i : Value) (S : S8) (g lo hi : Nat) (w : World) (ht : 0 ≤ S.data.length) (hok : Ok8 S) (hrg : Rng8 S) (hhi : hi ≤ w.heap.size) (hlo : lo ≤ hi) (ho : OwnSt w lo hi d r m c v o i S) (hB : Blk w g 152 #[d, r, .int .i32 S.a, m, c, v, o, i, .int .i64 S.fault, .int .i64 S.fuel]) (hp : ∀ W, Chg w W (fun k => k = g ∨ (lo ≤ k ∧ k < hi)) → Lib.TabIs Tryz.prog W "internal/strconv.uint64pow10" .u64 Lib.pow10Tab) : Calls Tryz.prog 135 #[.pointer (some ⟨g, 0, none⟩)] w (BenchEnd w g lo hi d r m c v o i S (prim8 21 S (top8 S 1) (top8 S 0))) := by
  have _u := hrg.inp
  have _v := hp w
  cases hl : S.ret.getLast? with
  | none =>
    rw [show prim8 21 S (top8 S 1) (top8 S 0) = .inl 3 by unfold prim8; simp only [hl]]
    exact bw_index_none _ _ _ _ _ _ _ S g lo hi w ht hok.data (by rw [List.getLast?_eq_none_iff.1 hl]; rfl) hhi hlo ho hB
  | some tz =>
    obtain ⟨t0, z0⟩ := tz
    have hne : S.ret ≠ [] := by intro h; rw [h] at hl; cases hl
    have h0 : 0 < S.ret.length := List.length_pos_iff.2 hne
    by_cases ht0 : t0 = 2
    · rw [show prim8 21 S (top8 S 1) (top8 S 0) = .inl 11 by unfold prim8; simp only [hl, ht0, if_true]]
      exact bw_index_back _ _ _ _ _ _ _ S g lo hi w ht hok.data hok.ret h0 t0 z0 hl (by simp [ht0]) hhi hlo ho hB
    · rw [show prim8 21 S (top8 S 1) (top8 S 0) = put8 S 0 [z0] by unfold prim8; simp only [hl, if_neg ht0]]
      exact bw_index_num _ _ _ _ _ _ _ S g lo hi w ht hok.data hok.ret h0 t0 z0 hl (by simp [ht0]) hhi hlo ho hB
theorem prim8_22 (d r m c v o i : Value) (S : S8) (g lo hi : Nat) (w : World) (ht : 1 ≤ S.data.length) (hok : Ok8 S) (hrg : Rng8 S) (hhi : hi ≤ w.heap.size) (hlo : lo ≤ hi) (ho : OwnSt w lo hi d r m c v o i S) (hB : Blk w g 152 #[d, r, .int .i32 S.a, m, c, v, o, i, .int .i64 S.fault, .int .i64 S.fuel]) (hp : ∀ W, Chg w W (fun k => k = g ∨ (lo ≤ k ∧ k < hi)) → Lib.TabIs Tryz.prog W "internal/strconv.uint64pow10" .u64 Lib.pow10Tab) : Calls Tryz.prog 136 #[.pointer (some ⟨g, 0, none⟩)] w (BenchEnd w g lo hi d r m c v o i S (prim8 22 S (top8 S 1) (top8 S 0))) := by
  have _u := hrg.inp
  have _v := hp w
  obtain ⟨r0, r1⟩ := hrg.top 0
  exact bw_print _ _ _ _ _ _ _ S g lo hi w ht hok.data hok.out r0 r1 hp hhi hlo ho hB
theorem prim8_23 (d r m c v o i : Value) (S : S8) (g lo hi : Nat) (w : World) (ht : 0 ≤ S.data.length) (hok : Ok8 S) (hrg : Rng8 S) (hhi : hi ≤ w.heap.size) (hlo : lo ≤ hi) (ho : OwnSt w lo hi d r m c v o i S) (hB : Blk w g 152 #[d, r, .int .i32 S.a, m, c, v, o, i, .int .i64 S.fault, .int .i64 S.fuel]) (hp : ∀ W, Chg w W (fun k => k = g ∨ (lo ≤ k ∧ k < hi)) → Lib.TabIs Tryz.prog W "internal/strconv.uint64pow10" .u64 Lib.pow10Tab) : Calls Tryz.prog 137 #[.pointer (some ⟨g, 0, none⟩)] w (BenchEnd w g lo hi d r m c v o i S (prim8 23 S (top8 S 1) (top8 S 0))) := by
  have _u := hrg.inp
  have _v := hp w
  exact bw_nop _ _ _ _ _ _ _ S g lo hi w ht hok.data hhi hlo ho hB
theorem bw_prim (k : Nat) (hk : k < 24) (d r m c v o i : Value) (S : S8) (g lo hi : Nat) (w : World) (ht : takes8 k ≤ S.data.length) (hok : Ok8 S) (hrg : Rng8 S) (hhi : hi ≤ w.heap.size) (hlo : lo ≤ hi) (ho : OwnSt w lo hi d r m c v o i S) (hB : Blk w g 152 #[d, r, .int .i32 S.a, m, c, v, o, i, .int .i64 S.fault, .int .i64 S.fuel]) (hp : ∀ W, Chg w W (fun k => k = g ∨ (lo ≤ k ∧ k < hi)) → Lib.TabIs Tryz.prog W "internal/strconv.uint64pow10" .u64 Lib.pow10Tab) :
    ∃ nm f, primCell k = #[.string nm, .int .i64 (takes8 k), .func (.func f) #[] #[]] ∧ Calls Tryz.prog f #[.pointer (some ⟨g, 0, none⟩)] w (BenchEnd w g lo hi d r m c v o i S (prim8 k S (top8 S 1) (top8 S 0))) := by
  match k, hk with
  | 0, _ => exact ⟨_, _, rfl, prim8_0 d r m c v o i S g lo hi w ht hok hrg hhi hlo ho hB hp⟩
  | 1, _ => exact ⟨_, _, rfl, prim8_1 d r m c v o i S g lo hi w ht hok hrg hhi hlo ho hB hp⟩
  | 2, _ => exact ⟨_, _, rfl, prim8_2 d r m c v o i S g lo hi w ht hok hrg hhi hlo ho hB hp⟩
  | 3, _ => exact ⟨_, _, rfl, prim8_3 d r m c v o i S g lo hi w ht hok hrg hhi hlo ho hB hp⟩
  | 4, _ => exact ⟨_, _, rfl, prim8_4 d r m c v o i S g lo hi w ht hok hrg hhi hlo ho hB hp⟩
  | 5, _ => exact ⟨_, _, rfl, prim8_5 d r m c v o i S g lo hi w ht hok hrg hhi hlo ho hB hp⟩
  | 6, _ => exact ⟨_, _, rfl, prim8_6 d r m c v o i S g lo hi w ht hok hrg hhi hlo ho hB hp⟩
  | 7, _ => exact ⟨_, _, rfl, prim8_7 d r m c v o i S g lo hi w ht hok hrg hhi hlo ho hB hp⟩
  | 8, _ => exact ⟨_, _, rfl, prim8_8 d r m c v o i S g lo hi w ht hok hrg hhi hlo ho hB hp⟩
  | 9, _ => exact ⟨_, _, rfl, prim8_9 d r m c v o i S g lo hi w ht hok hrg hhi hlo ho hB hp⟩
  | 10, _ => exact ⟨_, _, rfl, prim8_10 d r m c v o i S g lo hi w ht hok hrg hhi hlo ho hB hp⟩
  | 11, _ => exact ⟨_, _, rfl, prim8_11 d r m c v o i S g lo hi w ht hok hrg hhi hlo ho hB hp⟩
  | 12, _ => exact ⟨_, _, rfl, prim8_12 d r m c v o i S g lo hi w ht hok hrg hhi hlo ho hB hp⟩
  | 13, _ => exact ⟨_, _, rfl, prim8_13 d r m c v o i S g lo hi w ht hok hrg hhi hlo ho hB hp⟩
  | 14, _ => exact ⟨_, _, rfl, prim8_14 d r m c v o i S g lo hi w ht hok hrg hhi hlo ho hB hp⟩
  | 15, _ => exact ⟨_, _, rfl, prim8_15 d r m c v o i S g lo hi w ht hok hrg hhi hlo ho hB hp⟩
  | 16, _ => exact ⟨_, _, rfl, prim8_16 d r m c v o i S g lo hi w ht hok hrg hhi hlo ho hB hp⟩
  | 17, _ => exact ⟨_, _, rfl, prim8_17 d r m c v o i S g lo hi w ht hok hrg hhi hlo ho hB hp⟩
  | 18, _ => exact ⟨_, _, rfl, prim8_18 d r m c v o i S g lo hi w ht hok hrg hhi hlo ho hB hp⟩
  | 19, _ => exact ⟨_, _, rfl, prim8_19 d r m c v o i S g lo hi w ht hok hrg hhi hlo ho hB hp⟩
  | 20, _ => exact ⟨_, _, rfl, prim8_20 d r m c v o i S g lo hi w ht hok hrg hhi hlo ho hB hp⟩
  | 21, _ => exact ⟨_, _, rfl, prim8_21 d r m c v o i S g lo hi w ht hok hrg hhi hlo ho hB hp⟩
  | 22, _ => exact ⟨_, _, rfl, prim8_22 d r m c v o i S g lo hi w ht hok hrg hhi hlo ho hB hp⟩
  | 23, _ => exact ⟨_, _, rfl, prim8_23 d r m c v o i S g lo hi w ht hok hrg hhi hlo ho hB hp⟩
  | k + 24, h => omega
end Go.Proofs.YtdiaiflleiebfaaGreatDoor
