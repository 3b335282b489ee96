/-
  (*bench).tell: numbers put on a bench.
  (*bench).take; numbers taken and told.
  The words that tell nothing, on a bench.
  The words that set A; faults.
  The words that look at Ret.
  The word pop on a bench.
  (*bench).write: bytes put on Out.
-/
import Derived.Test.YtdiaiflleiebfaaGreatDoorDO16
import Derived.Test.YtdiaiflleiebfaaGreatDoorDO12
import Derived.RegionTactic
import Derived.ChangeAlike
import Derived.IntWalk
import Derived.Test.YtdiaiflleiebfaaGreatDoorDO19
namespace Go.Proofs.YtdiaiflleiebfaaGreatDoor
open Go.RowKit Go

set_option maxRecDepth 100000 in
set_option maxHeartbeats 2500000 in
theorem tell_any (lo g : Nat) (A : Option Addr) (n cap : Nat) (xs : List Int) (lv : Value) (ys : List Int) (x1 x2 x3 x4 x5 x6 x7 x8 x9 : Value) (w : World) (hn : xs.length = n) (hx : n ≤ 16) (hy : ys.length ≤ 3) (hlo : lo ≤ w.heap.size)
    (hB : Blk w g 152 #[.slice A n cap, x1, x2, x3, x4, x5, x6, x7, x8, x9]) (hO : w.ownsRow lo 21 1 (.slice A n cap) n (xs.map iv)) (hv : RdI w lv ys) :
    Calls Tryz.prog 113 #[.pointer (some ⟨g, 0, none⟩), lv] w (Told lo g w (.slice A n cap) n (xs ++ ys) x1 x2 x3 x4 x5 x6 x7 x8 x9) := by
  obtain ⟨B, b, rfl⟩ := hv.form
  obtain ⟨i0, hi0, hz0, hz1, hz2⟩ := info_parts infoI
  have SRC := Lib.hid (srcI hv)
  have OD := Lib.hid hO
  have KB := Lib.hid hB
  obtain ⟨p0, p1, p2, p3, p4, p5, p6, p7, p8, p9⟩ := st_cells hB
  have f0 := hB.frozen
  have HN := Lib.hid hn
  clear hv hO hB hn
  go_enter Tryz.func113, Tryz.ntmps113
  go_wp2_with (at_builtin; refine wpList_append_src rfl _ _ 24 rfl lo 21 i0 (.int .i32 0) 1 4 Tryz.underlying24 hi0 hz0 hz1 hz2 rfl (by decide) (.slice A n cap) n (xs.map iv) rfl OD.out (.slice B ys.length b) ys.length (ys.map iv) rfl SRC.out (oneI _) (by unfold maxLen; omega) (by omega) hlo ?_; intro v' w2 hown halt; refine unstop ?_)
  refine Stop.go ?_
  have hgr := halt.out.grown
  have hne : some g ≠ (Value.slice A n cap).ownBlock := box_neG KB.out OD.out (by decide)
  have KB2 := Lib.hid (KB.out.grown hgr hne)
  have hlen : (xs ++ ys).length = n + ys.length := by rw [List.length_append, HN.out]
  have hown2 : w2.ownsRow lo 21 1 v' (n + ys.length) ((xs ++ ys).map iv) := by rw [List.map_append]; exact hown
  obtain ⟨D, dc, rfl⟩ := own_form hown2
  have hsz : w.heap.size ≤ w2.heap.size := hgr.size
  have HT : Hid (∀ e, e = .returned (.int .i64 (if 16 < n + ys.length then 2 else 0)) → Told lo g w (.slice A n cap) n (xs ++ ys) x1 x2 x3 x4 x5 x6 x7 x8 x9 e (w2.setCell ⟨g, 0, none⟩ (.slice D (n + ys.length) dc))) := Lib.hid (by
    rintro e rfl
    have hgd : g < w2.heap.size := KB2.out.lt
    have hned : (Value.slice D (n + ys.length) dc).ownBlock = none ∨ (Value.slice D (n + ys.length) dc).ownBlock ≠ some g := .inr fun e => box_neG KB2.out hown2 (by decide) e.symm
    refine ⟨.slice D (n + ys.length) dc, by rw [hlen], by have := KB2.out.put 0 (.slice D (n + ys.length) dc); simpa using this, ?_, ?_⟩
    · rw [hlen]
      exact hown2.kept (row := some g) (only_setCell (World.grownBy.refl _ _) (.inl rfl) _) hned
    · rw [hlen]
      rcases halt.out with ⟨q, cp, e1, h1, e2, h2⟩ | ⟨h1, h2⟩
      · exact .inl ⟨q, cp, e1, e2, h1, (Chg.of_grown h2 (P := fun k => k = g ∨ k = q) (fun k hk => .inr (by injection hk with hk; exact hk.symm))).set (.inl rfl) _⟩
      · exact .inr ⟨(Chg.of_below h1 (P := fun k => k = g)).set rfl _, h2⟩)
  clear p0 p1 p2 p3 p4 p5 p6 p7 p8 p9 f0 hgr hne
  obtain ⟨p0, p1, p2, p3, p4, p5, p6, p7, p8, p9⟩ := st_cells KB2.out
  have f0 := KB2.out.frozen
  clear hown halt hown2 hlen KB OD SRC
  by_cases h16 : 16 < n + ys.length
  · have g1 : (16 : Int) < (n : Int) + (ys.length : Int) := by omega
    have HT2 := Lib.hid (HT.out _ (by rw [if_pos h16]))
    clear h16 HT
    go_wp2_with fail
    go_ret
    exact HT2.out
  · have g1 : ¬ (16 : Int) < (n : Int) + (ys.length : Int) := by omega
    have HT2 := Lib.hid (HT.out _ (by rw [if_neg h16]))
    clear h16 HT
    go_wp2_with fail
    go_ret
    exact HT2.out
end Go.Proofs.YtdiaiflleiebfaaGreatDoor

namespace Go.Proofs.YtdiaiflleiebfaaGreatDoor
open Go.RowKit Go

set_option maxHeartbeats 1000000 in
theorem take_any (g q n cap : Nat) (y : Int) (x1 x2 x3 x4 x5 x6 x7 x8 x9 : Value) (w : World) (hn : n ≤ 1000) (hcap : n + 1 ≤ cap) (hB : Blk w g 152 #[.slice (some ⟨q, 0, none⟩) (n + 1) cap, x1, x2, x3, x4, x5, x6, x7, x8, x9]) (hc : w.cell? ⟨q, n, none⟩ = some (.int .i32 y)) :
    Calls Tryz.prog 163 #[.pointer (some ⟨g, 0, none⟩)] w fun e w' => e = .returned (.int .i32 y) ∧ w' = w.setCell ⟨g, 0, none⟩ (.slice (some ⟨q, 0, none⟩) n cap) := by
  obtain ⟨p0, p1, p2, p3, p4, p5, p6, p7, p8, p9⟩ := st_cells hB
  have f0 := hB.frozen
  have i1 : (0 : Int) ≤ (n : Int) := by omega
  have i2 : (n : Int) < (n : Int) + 1 := by omega
  have i3 : n ≤ cap := by omega
  have i4 : (n : Int) ≤ (cap : Int) := by omega
  clear hB
  go_enter Tryz.func163, Tryz.ntmps163
  go_wp2
  go_ret
  exact ⟨rfl, rfl⟩
theorem BenchEnd.ret {w w' : World} {g lo hi : Nat} {d r m c v o i : Value} {S : S8} {res : Int ⊕ S8} {e : Ending} (h : BenchEnd w g lo hi d r m c v o i S res e w') : ∃ z, e = .returned (.int .i64 z) := by
  obtain ⟨-, h⟩ := h
  cases res with
  | inl f => exact ⟨f, h.1⟩
  | inr T => exact ⟨0, h.1⟩
/-- A bench whose words have taken some numbers: the rows are as they were. -/
structure Taken (w w1 : World) (g lo hi : Nat) (A : Option Addr) (n cap : Nat) (d r m c v o i : Value) (S : S8) : Prop where
  dform : d = .slice A S.data.length cap
  le : n ≤ S.data.length
  hhi : hi ≤ w.heap.size
  hlo : lo ≤ hi
  chg : Chg w w1 (fun k => k = g)
  own : OwnSt w1 lo hi d r m c v o i S
  box : Blk w1 g 152 #[.slice A n cap, r, .int .i32 S.a, m, c, v, o, i, .int .i64 S.fault, .int .i64 S.fuel]
theorem Taken.start {w : World} {g lo hi cap : Nat} {A : Option Addr} {r m c v o i : Value} {S : S8} (hhi : hi ≤ w.heap.size) (hlo : lo ≤ hi) (ho : OwnSt w lo hi (.slice A S.data.length cap) r m c v o i S) (hB : Blk w g 152 #[.slice A S.data.length cap, r, .int .i32 S.a, m, c, v, o, i, .int .i64 S.fault, .int .i64 S.fuel]) :
    Taken w w g lo hi A S.data.length cap (.slice A S.data.length cap) r m c v o i S := ⟨rfl, Nat.le_refl _, hhi, hlo, Chg.refl _ _, ho, hB⟩
theorem Taken.step {w w1 : World} {g lo hi n cap : Nat} {A : Option Addr} {d r m c v o i : Value} {S : S8} (h : Taken w w1 g lo hi A (n + 1) cap d r m c v o i S) : Taken w (w1.setCell ⟨g, 0, none⟩ (.slice A n cap)) g lo hi A n cap d r m c v o i S :=
  ⟨h.dform, by have := h.le; omega, h.hhi, h.hlo, h.chg.set rfl _, h.own.atBox h.box (only_setCell (World.grownBy.refl _ _) (.inl rfl) _) (by decide) (by decide) (by decide) (by decide) (by decide), by have := h.box.put 0 (.slice A n cap); simpa using this⟩
/-- The next number that is taken. -/
theorem Taken.cell {w w1 : World} {g lo hi n cap : Nat} {A : Option Addr} {d r m c v o i : Value} {S : S8} (h : Taken w w1 g lo hi A (n + 1) cap d r m c v o i S) : ∃ q, A = some ⟨q, 0, none⟩ ∧ n + 1 ≤ cap ∧ w1.cell? ⟨q, n, none⟩ = some (.int .i32 (S.data.getD n 0)) := by
  have hle := h.le
  obtain ⟨q, cp, cur, hv, hr⟩ := own_row h.own.d (by omega)
  have hv2 := h.dform.symm.trans hv
  injection hv2 with e1 e2 e3
  subst e1 e3
  have h1 : n + 1 ≤ cap := by have := hr.le; omega
  refine ⟨q, rfl, h1, ?_⟩
  rw [cell_of_row w1 q n cur.toArray 21 (0, 0) hr.row]
  have ht := congrArg (·[n]?) hr.take
  simp only [List.getElem?_take, List.getElem?_map] at ht
  rw [if_pos (by omega)] at ht
  rw [List.getElem?_toArray, ht, List.getD, List.getElem?_eq_getElem (by omega)]
  rfl
/-- Numbers are told, and the word is done. -/
theorem tell_end {w w1 : World} {g lo hi n cap t : Nat} {A : Option Addr} {d r m c v o i : Value} {S : S8} {l : List Int} (h : Taken w w1 g lo hi A n cap d r m c v o i S) (hn : S.data.length - t = n) (h16 : S.data.length ≤ 16) (hl : l.length ≤ 3)
    (hsame : 16 < n + l.length → (S.data.take n ++ l).take S.data.length = S.data ∧ S.data.length ≤ n + l.length) :
    Calls Tryz.prog 113 #[.pointer (some ⟨g, 0, none⟩), .slice (some ⟨w1.heap.size, 0, none⟩) l.length l.length] (w1.alloc (.cells (l.map iv).toArray 21)) (BenchEnd w g lo hi d r m c v o i S (put8 S t l)) := by
  have ha := below_alloc w1 (.cells (l.map iv).toArray 21)
  have hO := (h.own.alloc (.cells (l.map iv).toArray 21))
  have hB := h.box.alloc (.cells (l.map iv).toArray 21)
  have hd := hO.d
  have hle := h.le
  rw [h.dform] at hd
  have hp := own_prefix hd hle
  rw [← List.map_take] at hp
  have hT := tell_any lo g A n cap (S.data.take n) _ l r (.int .i32 S.a) m c v o i (.int .i64 S.fault) (.int .i64 S.fuel) _ (by simp; omega) (by omega) hl (by have h1 := h.hhi; have h2 := h.hlo; have h3 := h.chg.size; simp; omega) hB hp (rdI_new w1 21 l (by omega))
  exact hT.mono fun e w' hh => told_end (h.chg.alloc _) h.hhi h.dform rfl hn hO hO ⟨_, _, hB, rfl⟩ hsame hh
theorem same_none {S : S8} {n k : Nat} {P : Prop} (h16 : S.data.length ≤ 16) (hn : n + k ≤ S.data.length) (h : 16 < n + k) : P := by omega
theorem same_add {S : S8} {z : Int} {n : Nat} (hn : S.data.length = n) : (S.data.take n ++ [z]).take S.data.length = S.data ∧ S.data.length ≤ n + 1 := by
  subst hn
  simp
theorem top_get {S : S8} {n : Nat} (h : S.data.length = n + 1) : S.data = S.data.take n ++ [S.data.getD n 0] := by
  have e := List.take_append_drop n S.data
  have hd : S.data.drop n = [S.data.getD n 0] := by
    rw [List.drop_eq_getElem_cons (by omega), List.drop_of_length_le (by omega)]
    simp [List.getD, List.getElem?_eq_getElem (show n < S.data.length by omega)]
  rw [hd] at e
  exact e.symm
end Go.Proofs.YtdiaiflleiebfaaGreatDoor

namespace Go.Proofs.YtdiaiflleiebfaaGreatDoor
open Go.RowKit Go

theorem taken_end {w w1 : World} {g lo hi n cap t : Nat} {A : Option Addr} {d r m c v o i : Value} {S : S8} (h : Taken w w1 g lo hi A n cap d r m c v o i S) (hn : S.data.length - t = n) (h16 : S.data.length ≤ 16) : BenchEnd w g lo hi d r m c v o i S (put8 S t []) (.returned (.int .i64 0)) w1 := by
  have hle := h.le
  have e : put8 S t [] = .inr { S with data := S.data.take n } := by
    unfold put8
    rw [hn, if_neg (by simp; omega), List.append_nil]
  rw [e]
  have hd := h.own.d
  rw [h.dform] at hd
  have hp := own_prefix hd hle
  rw [← List.map_take] at hp
  have hl : (S.data.take n).length = n := by simp; omega
  have hsz : hi ≤ w1.heap.size := Nat.le_trans h.hhi h.chg.size
  refine ⟨h.chg.weaken fun k _ hk => .inl hk, rfl, _, _, _, _, _, _, _, h.box, ?_⟩
  have hdm := h.own.dm
  rw [h.dform] at hdm
  exact OwnSt.of7T (S := { S with data := S.data.take n }) (by show w1.ownsRow lo _ 1 _ (S.data.take n).length _; rw [hl]; exact hp) h.own.r h.own.m h.own.c h.own.v h.own.o h.own.i (by rw [own_block (N := S.data.length)]; exact hdm) h.own.oi
set_option maxRecDepth 100000 in
set_option maxHeartbeats 1000000 in
theorem bw_drop (d r m c v o i : Value) (S : S8) (g lo hi : Nat) (w : World) (ht : 1 ≤ S.data.length) (h16 : S.data.length ≤ 16) (hhi : hi ≤ w.heap.size) (hlo : lo ≤ hi) (ho : OwnSt w lo hi d r m c v o i S) (hB : Blk w g 152 #[d, r, .int .i32 S.a, m, c, v, o, i, .int .i64 S.fault, .int .i64 S.fuel]) :
    Calls Tryz.prog 115 #[.pointer (some ⟨g, 0, none⟩)] w (BenchEnd w g lo hi d r m c v o i S (put8 S 1 [])) := by
  obtain ⟨A, cap, rfl⟩ := own_form ho.d
  obtain ⟨n, hn⟩ : ∃ n, S.data.length = n + 1 := ⟨S.data.length - 1, by omega⟩
  have T0 : Hid (Taken w w g lo hi A (n + 1) cap (.slice A S.data.length cap) r m c v o i S) := Lib.hid (by have h := Taken.start hhi hlo ho hB; exact ⟨rfl, by omega, hhi, hlo, h.chg, h.own, by rw [← hn]; exact hB⟩)
  have H16 := Lib.hid h16
  have HN : Hid (S.data.length = n + 1) := Lib.hid hn
  have h18 : n + 1 ≤ 16 := by omega
  clear ho hB hhi hlo h16 ht hn
  obtain ⟨q0, hA0, hc0, hy0⟩ := T0.out.cell
  subst hA0
  obtain ⟨y, hy⟩ : ∃ y, S.data.getD (n) 0 = y := ⟨_, rfl⟩
  rw [hy] at hy0
  have Hy : Hid (S.data.getD (n) 0 = y) := Lib.hid hy
  have HK0 := Lib.hid (take_any g q0 (n) cap y _ _ _ _ _ _ _ _ _ w (by omega) hc0 T0.out.box hy0)
  clear hy hy0 hc0
  go_enter Tryz.func115, Tryz.ntmps115
  go_wp2_with fail
  refine HK0.out.mono ?_
  rintro e w1 ⟨rfl, hw⟩
  have T1 : Hid (Taken w w1 g lo hi (some ⟨q0, 0, none⟩) (n) cap (.slice (some ⟨q0, 0, none⟩) S.data.length cap) r m c v o i S) := Lib.hid (by rw [hw]; exact T0.out.step)
  clear hw HK0
  have HE := Lib.hid (taken_end (t := 1) T1.out (by rw [HN.out]; rfl) H16.out)
  go_wp2_with fail
  go_ret
  exact HE.out
set_option maxRecDepth 100000 in
set_option maxHeartbeats 1000000 in
theorem bw_nop (d r m c v o i : Value) (S : S8) (g lo hi : Nat) (w : World) (_ht : 0 ≤ S.data.length) (h16 : S.data.length ≤ 16) (hhi : hi ≤ w.heap.size) (hlo : lo ≤ hi) (ho : OwnSt w lo hi d r m c v o i S) (hB : Blk w g 152 #[d, r, .int .i32 S.a, m, c, v, o, i, .int .i64 S.fault, .int .i64 S.fuel]) :
    Calls Tryz.prog 137 #[.pointer (some ⟨g, 0, none⟩)] w (BenchEnd w g lo hi d r m c v o i S (put8 S 0 [])) := by
  obtain ⟨A, cap, rfl⟩ := own_form ho.d
  have T0 := Lib.hid (Taken.start hhi hlo ho hB)
  have H16 := Lib.hid h16
  clear ho hB hhi hlo h16 _ht
  go_enter Tryz.func137, Tryz.ntmps137
  have HE := Lib.hid (taken_end (t := 0) T0.out (Nat.sub_zero _) H16.out)
  go_wp2_with fail
  go_ret
  exact HE.out
end Go.Proofs.YtdiaiflleiebfaaGreatDoor

namespace Go.Proofs.YtdiaiflleiebfaaGreatDoor
open Go.RowKit Go

theorem taken_fault {w w1 : World} {g lo hi n cap : Nat} {A : Option Addr} {d r m c v o i : Value} {S : S8} (h : Taken w w1 g lo hi A n cap d r m c v o i S) {f : Int} (hf : f ≠ 0) : BenchEnd w g lo hi d r m c v o i S (.inl f) (.returned (.int .i64 f)) w1 :=
  ⟨h.chg.weaken fun _ _ hk => .inl hk, rfl, hf, h.own⟩
theorem taken_a {w w1 : World} {g lo hi n cap t : Nat} {A : Option Addr} {d r m c v o i : Value} {S : S8} (h : Taken w w1 g lo hi A n cap d r m c v o i S) (hn : S.data.length - t = n) (y : Int) : BenchEnd w g lo hi d r m c v o i S (.inr { drop8 S t with a := y }) (.returned (.int .i64 0)) (w1.setCell ⟨g, 2, none⟩ (.int .i32 y)) := by
  have hle := h.le
  have hown := h.own.atBox h.box (only_setCell (World.grownBy.refl _ _) (p := ⟨g, 2, none⟩) (.inl rfl) (.int .i32 y)) (by decide) (by decide) (by decide) (by decide) (by decide)
  have hd := hown.d
  rw [h.dform] at hd
  have hp := own_prefix hd hle
  rw [← List.map_take] at hp
  have hl : (S.data.take n).length = n := by simp; omega
  have e : drop8 S t = { S with data := S.data.take n } := by unfold drop8; rw [hn]
  rw [e]
  refine ⟨(h.chg.set rfl _).weaken fun k _ hk => .inl hk, rfl, _, _, _, _, _, _, _, by have := h.box.put 2 (.int .i32 y); simpa using this, ?_⟩
  have hdm := h.own.dm
  rw [h.dform] at hdm
  exact OwnSt.of7T (S := { S with data := S.data.take n, a := y }) (by show World.ownsRow _ lo _ 1 _ (S.data.take n).length _; rw [hl]; exact hp) hown.r hown.m hown.c hown.v hown.o hown.i (by rw [own_block (N := S.data.length)]; exact hdm) h.own.oi
set_option maxRecDepth 100000 in
set_option maxHeartbeats 1000000 in
theorem bw_setA (d r m c v o i : Value) (S : S8) (g lo hi : Nat) (w : World) (ht : 1 ≤ S.data.length) (h16 : S.data.length ≤ 16) (hhi : hi ≤ w.heap.size) (hlo : lo ≤ hi) (ho : OwnSt w lo hi d r m c v o i S) (hB : Blk w g 152 #[d, r, .int .i32 S.a, m, c, v, o, i, .int .i64 S.fault, .int .i64 S.fuel]) :
    Calls Tryz.prog 130 #[.pointer (some ⟨g, 0, none⟩)] w (BenchEnd w g lo hi d r m c v o i S (.inr { drop8 S 1 with a := top8 S 0 })) := by
  obtain ⟨A, cap, rfl⟩ := own_form ho.d
  obtain ⟨n, hn⟩ : ∃ n, S.data.length = n + 1 := ⟨S.data.length - 1, by omega⟩
  have T0 : Hid (Taken w w g lo hi A (n + 1) cap (.slice A S.data.length cap) r m c v o i S) := Lib.hid (by have h := Taken.start hhi hlo ho hB; exact ⟨rfl, by omega, hhi, hlo, h.chg, h.own, by rw [← hn]; exact hB⟩)
  have H16 := Lib.hid h16
  have HN : Hid (S.data.length = n + 1) := Lib.hid hn
  have h18 : n + 1 ≤ 16 := by omega
  clear ho hB hhi hlo h16 ht hn
  obtain ⟨q0, hA0, hc0, hy0⟩ := T0.out.cell
  subst hA0
  obtain ⟨y, hy⟩ : ∃ y, S.data.getD (n) 0 = y := ⟨_, rfl⟩
  rw [hy] at hy0
  have Hy : Hid (S.data.getD (n) 0 = y) := Lib.hid hy
  have HK0 := Lib.hid (take_any g q0 (n) cap y _ _ _ _ _ _ _ _ _ w (by omega) hc0 T0.out.box hy0)
  clear hy hy0 hc0
  have HL : Hid (top8 S 0 = y) := Lib.hid (by unfold top8; rw [HN.out, ← Hy.out]; rfl)
  go_enter Tryz.func130, Tryz.ntmps130
  go_wp2_with fail
  refine HK0.out.mono ?_
  rintro e w1 ⟨rfl, hw⟩
  have T1 : Hid (Taken w w1 g lo hi (some ⟨q0, 0, none⟩) (n) cap (.slice (some ⟨q0, 0, none⟩) S.data.length cap) r m c v o i S) := Lib.hid (by rw [hw]; exact T0.out.step)
  clear hw HK0
  have HE := Lib.hid (taken_a (t := 1) T1.out (by rw [HN.out]; rfl) y)
  rw [← HL.out] at HE
  obtain ⟨p0, p1, p2, p3, p4, p5, p6, p7, p8, p9⟩ := st_cells T1.out.box
  have f0 := T1.out.box.frozen
  go_wp2_with fail
  go_ret
  rw [← HL.out]
  exact HE.out
end Go.Proofs.YtdiaiflleiebfaaGreatDoor

namespace Go.Proofs.YtdiaiflleiebfaaGreatDoor
open Go.RowKit Go

/-- The last slot of Ret. -/
theorem Taken.slot {w w1 : World} {g lo hi n cap k rc : Nat} {A R : Option Addr} {d m c v o i : Value} {S : S8} (h : Taken w w1 g lo hi A n cap d (.slice R S.ret.length rc) m c v o i S) (hk : S.ret.length = k + 1) : ∃ q t z, R = some ⟨q, 0, none⟩ ∧ k + 1 ≤ rc ∧ q < w1.heap.size ∧ S.ret.getLast? = some (t, z) ∧ w1.cell? ⟨q, k * 2, none⟩ = some (.int .i64 t) ∧ w1.cell? ⟨q, k * 2 + 1, none⟩ = some (.int .i32 z) := by
  rcases h.own.r.2 with ⟨e1, h0⟩ | ⟨q, cp, cur, e1, -, hrow, hle, -, hsz, ht⟩
  · omega
  · injection e1 with e1 e2 e3
    subst e1 e3
    have hlast : S.ret.getLast? = some (S.ret[k]'(by omega)) := by
      rw [List.getLast?_eq_getElem?]
      have e : S.ret.length - 1 = k := by omega
      rw [e]
      exact List.getElem?_eq_getElem _
    have hcell : ∀ j u, j < 2 → (slv S.ret)[k * 2 + j]? = some u → w1.cell? ⟨q, k * 2 + j, none⟩ = some u := fun j u hj hu => by
      rw [cell_of_row w1 q (k * 2 + j) cur 69 (0, 0) hrow]
      have h1 := congrArg (·[k * 2 + j]?) ht
      simp only [hu, List.getElem?_take] at h1
      rw [if_pos (by omega)] at h1
      simpa using h1
    exact ⟨q, (S.ret[k]'(by omega)).1, (S.ret[k]'(by omega)).2, rfl, by omega, (Array.getElem?_eq_some_iff.1 hrow).1, hlast, hcell 0 _ (by omega) (slv_get0 (by omega)), hcell 1 _ (by omega) (slv_get1 (by omega))⟩
/-- Only what is new has changed. -/
theorem Taken.far {w w1 w2 : World} {g lo hi n cap : Nat} {A : Option Addr} {d r m c v o i : Value} {S : S8} (h : Taken w w1 g lo hi A n cap d r m c v o i S) (hb : Below w1.heap.size w1 w2) : Taken w w2 g lo hi A n cap d r m c v o i S :=
  ⟨h.dform, h.le, h.hhi, h.hlo, h.chg.trans (.of_below hb), h.own.keep hb, h.box.below hb h.box.lt⟩
set_option maxRecDepth 100000 in
set_option maxHeartbeats 1000000 in
theorem bw_index_none (d r m c v o i : Value) (S : S8) (g lo hi : Nat) (w : World) (_ht : 0 ≤ S.data.length) (_h16 : S.data.length ≤ 16) (hk : S.ret.length = 0) (hhi : hi ≤ w.heap.size) (hlo : lo ≤ hi) (ho : OwnSt w lo hi d r m c v o i S) (hB : Blk w g 152 #[d, r, .int .i32 S.a, m, c, v, o, i, .int .i64 S.fault, .int .i64 S.fuel]) :
    Calls Tryz.prog 135 #[.pointer (some ⟨g, 0, none⟩)] w (BenchEnd w g lo hi d r m c v o i S (.inl 3)) := by
  obtain ⟨A, cap, rfl⟩ := own_form ho.d
  obtain ⟨R, rc, hR⟩ := own_formG ho.r
  have T0 := Lib.hid (Taken.start hhi hlo ho hB)
  have HE := Lib.hid (taken_fault T0.out (f := 3) (by decide))
  rw [hk] at hR
  subst hR
  obtain ⟨p0, p1, p2, p3, p4, p5, p6, p7, p8, p9⟩ := st_cells hB
  have hz : ((0 : Int) == 0) = true := by decide
  clear ho hB hhi hlo _ht _h16 hk T0
  go_enter Tryz.func135, Tryz.ntmps135
  go_wp2_with fail
  go_ret
  exact HE.out
set_option maxRecDepth 100000 in
set_option maxHeartbeats 1000000 in
theorem bw_index_back (d r m c v o i : Value) (S : S8) (g lo hi : Nat) (w : World) (_ht : 0 ≤ S.data.length) (h16 : S.data.length ≤ 16) (hr24 : S.ret.length ≤ 24) (hr0 : 0 < S.ret.length) (t0 z0 : Int) (hl0 : S.ret.getLast? = some (t0, z0)) (ht0 : (t0 == 2) = true) (hhi : hi ≤ w.heap.size) (hlo : lo ≤ hi) (ho : OwnSt w lo hi d r m c v o i S) (hB : Blk w g 152 #[d, r, .int .i32 S.a, m, c, v, o, i, .int .i64 S.fault, .int .i64 S.fuel]) :
    Calls Tryz.prog 135 #[.pointer (some ⟨g, 0, none⟩)] w (BenchEnd w g lo hi d r m c v o i S (.inl 11)) := by
  obtain ⟨A, cap, rfl⟩ := own_form ho.d
  obtain ⟨R, rc, hR⟩ := own_formG ho.r
  subst hR
  obtain ⟨k, hk⟩ : ∃ k, S.ret.length = k + 1 := ⟨S.ret.length - 1, by omega⟩
  have T0 := Lib.hid (Taken.start hhi hlo ho hB)
  obtain ⟨q, t, z, hR, hrc, hq, hlast, hc0, hc1⟩ := T0.out.slot hk
  subst hR
  obtain ⟨p0, p1, p2, p3, p4, p5, p6, p7, p8, p9⟩ := st_cells hB
  rw [hk] at p1
  have hkk : k ≤ 1000 := by have := hr24; omega
  have i1 : (0 : Int) ≤ (k : Int) := by omega
  have i2 : (k : Int) < (k : Int) + 1 := by omega
  have hz : ((k : Int) + 1 == 0) = false := by simp; omega
  have wz : IntKind.i64.wrap ((k : Int) + 1 - 1) = (k : Int) := by rw [show (k : Int) + 1 - 1 = (k : Int) by omega]; exact IntWalk.i64_in _ (by omega)
  have wy : (k : Int) + 1 - 1 = (k : Int) := by omega
  have wk : IntKind.i64.wrap (k : Int) = (k : Int) := IntWalk.i64_in _ (by omega)
  have hg : g < w.heap.size := hB.lt
  have h16' := Lib.hid h16
  have HLAST := Lib.hid hlast
  rw [hlast] at hl0
  injection hl0 with hl0
  injection hl0 with e1 e2
  subst e1 e2
  clear hr24 HLAST
  have HE := Lib.hid (taken_fault (T0.out.far (below_alloc w (.cells #[.int .i64 t, .int .i32 z] 69)).drew) (f := 11) (by decide))
  clear T0
  clear ho hB hhi hlo _ht h16 hk hr0 hlast
  go_enter Tryz.func135, Tryz.ntmps135
  go_wp2_with fail
  go_region
  all_goals go_wp2_with fail
  go_ret
  exact HE.out
set_option maxRecDepth 100000 in
set_option maxHeartbeats 1000000 in
theorem bw_index_num (d r m c v o i : Value) (S : S8) (g lo hi : Nat) (w : World) (_ht : 0 ≤ S.data.length) (h16 : S.data.length ≤ 16) (hr24 : S.ret.length ≤ 24) (hr0 : 0 < S.ret.length) (t0 z0 : Int) (hl0 : S.ret.getLast? = some (t0, z0)) (ht0 : (t0 == 2) = false) (hhi : hi ≤ w.heap.size) (hlo : lo ≤ hi) (ho : OwnSt w lo hi d r m c v o i S) (hB : Blk w g 152 #[d, r, .int .i32 S.a, m, c, v, o, i, .int .i64 S.fault, .int .i64 S.fuel]) :
    Calls Tryz.prog 135 #[.pointer (some ⟨g, 0, none⟩)] w (BenchEnd w g lo hi d r m c v o i S (put8 S 0 [z0])) := by
  obtain ⟨A, cap, rfl⟩ := own_form ho.d
  obtain ⟨R, rc, hR⟩ := own_formG ho.r
  subst hR
  obtain ⟨k, hk⟩ : ∃ k, S.ret.length = k + 1 := ⟨S.ret.length - 1, by omega⟩
  have T0 := Lib.hid (Taken.start hhi hlo ho hB)
  obtain ⟨q, t, z, hR, hrc, hq, hlast, hc0, hc1⟩ := T0.out.slot hk
  subst hR
  obtain ⟨p0, p1, p2, p3, p4, p5, p6, p7, p8, p9⟩ := st_cells hB
  rw [hk] at p1
  have hkk : k ≤ 1000 := by have := hr24; omega
  have i1 : (0 : Int) ≤ (k : Int) := by omega
  have i2 : (k : Int) < (k : Int) + 1 := by omega
  have hz : ((k : Int) + 1 == 0) = false := by simp; omega
  have wz : IntKind.i64.wrap ((k : Int) + 1 - 1) = (k : Int) := by rw [show (k : Int) + 1 - 1 = (k : Int) by omega]; exact IntWalk.i64_in _ (by omega)
  have wy : (k : Int) + 1 - 1 = (k : Int) := by omega
  have wk : IntKind.i64.wrap (k : Int) = (k : Int) := IntWalk.i64_in _ (by omega)
  have hg : g < w.heap.size := hB.lt
  have h16' := Lib.hid h16
  have HLAST := Lib.hid hlast
  rw [hlast] at hl0
  injection hl0 with hl0
  injection hl0 with e1 e2
  subst e1 e2
  clear hr24 HLAST
  have T1 := Lib.hid (T0.out.far (below_alloc w (.cells #[.int .i64 t, .int .i32 z] 69)).drew)
  clear T0
  clear ho hB hhi hlo _ht h16 hk hr0 hlast
  go_enter Tryz.func135, Tryz.ntmps135
  go_wp2_with fail
  go_region
  all_goals go_wp2_with fail
  have HH := tell_end (t := 0) (l := [z]) T1.out (Nat.sub_zero _) h16'.out (by simp) (fun _ => same_add rfl)
  have e1 : ∀ (W : World) (o : Obj), W.drew.alloc o = (W.alloc o).drew := fun _ _ => rfl
  have e2 : ∀ (W : World), W.drew.heap.size = W.heap.size := fun _ => rfl
  rw [e1, e2, World.size_alloc] at HH
  have HH2 := Lib.hid HH
  clear HH
  refine HH2.out.mono ?_
  clear HH2 T1 hz wz wy wk i1 i2 p0 p1 p2 p3 p4 p5 p6 p7 p8 p9 ht0
  intro e w9 hE
  obtain ⟨u, rfl⟩ := hE.ret
  have HE := Lib.hid hE
  clear hE
  go_wp2_with fail
  go_ret
  exact HE.out
end Go.Proofs.YtdiaiflleiebfaaGreatDoor

namespace Go.Proofs.YtdiaiflleiebfaaGreatDoor
open Go.RowKit Go

theorem tell_end2 {w w1 : World} {g lo hi cap : Nat} {A : Option Addr} {d r m c v o i r2 m2 c2 v2 o2 i2 : Value} {S S2 : S8} {l : List Int} (hc : Chg w w1 (fun k => k = g)) (hhi : hi ≤ w.heap.size) (hlo : lo ≤ hi) (hd : d = .slice A S.data.length cap) (hdd : S2.data = S.data) (ho : OwnSt w1 lo hi d r m c v o i S) (ho2 : OwnSt w1 lo hi d r2 m2 c2 v2 o2 i2 S2)
    (hB : Blk w1 g 152 #[d, r2, .int .i32 S2.a, m2, c2, v2, o2, i2, .int .i64 S2.fault, .int .i64 S2.fuel]) (h16 : S.data.length ≤ 16) (hl : l.length ≤ 3) :
    Calls Tryz.prog 113 #[.pointer (some ⟨g, 0, none⟩), .slice (some ⟨w1.heap.size, 0, none⟩) l.length l.length] (w1.alloc (.cells (l.map iv).toArray 21)) (BenchEnd w g lo hi d r m c v o i S (put8 S2 0 l)) := by
  have hO := (ho.alloc (.cells (l.map iv).toArray 21))
  have hO2 := (ho2.alloc (.cells (l.map iv).toArray 21))
  have hB2 := hB.alloc (.cells (l.map iv).toArray 21)
  have hdr := hO.d
  rw [hd] at hdr hB2
  have e0 : S.data.take S.data.length = S.data := List.take_of_length_le (Nat.le_refl _)
  have hT := tell_any lo g A S.data.length cap S.data _ l r2 (.int .i32 S2.a) m2 c2 v2 o2 i2 (.int .i64 S2.fault) (.int .i64 S2.fuel) _ rfl h16 hl (by have h3 := hc.size; simp; omega) hB2 hdr (rdI_new w1 21 l (by omega))
  exact hT.mono fun e w' hh => told_end (n := S.data.length) (hc.alloc _) hhi hd hdd (Nat.sub_zero _) hO hO2 ⟨_, _, hB2, rfl⟩ (fun _ => by simp) (by rw [e0]; exact hh)
/-- The top of Ret has been taken. -/
theorem pop_end {w w1 : World} {g lo hi k rc q : Nat} {d m c v o i : Value} {S : S8} (hk : S.ret.length = k + 1) (ho : OwnSt w1 lo hi d (.slice (some ⟨q, 0, none⟩) S.ret.length rc) m c v o i S) (hB : Blk w1 g 152 #[d, .slice (some ⟨q, 0, none⟩) S.ret.length rc, .int .i32 S.a, m, c, v, o, i, .int .i64 S.fault, .int .i64 S.fuel]) (hc : Chg w w1 (fun k => k = g)) :
    let W := w1.setCell ⟨g, 1, none⟩ (.slice (some ⟨q, 0, none⟩) k rc)
    Chg w W (fun k => k = g) ∧ OwnSt W lo hi d (.slice (some ⟨q, 0, none⟩) S.ret.length rc) m c v o i S ∧ OwnSt W lo hi d (.slice (some ⟨q, 0, none⟩) k rc) m c v o i { S with ret := S.ret.dropLast } ∧ Blk W g 152 #[d, .slice (some ⟨q, 0, none⟩) k rc, .int .i32 S.a, m, c, v, o, i, .int .i64 S.fault, .int .i64 S.fuel] := by
  intro W
  have hown := ho.atBox hB (only_setCell (World.grownBy.refl _ _) (p := ⟨g, 1, none⟩) (.inl rfl) (.slice (some ⟨q, 0, none⟩) k rc)) (by decide) (by decide) (by decide) (by decide) (by decide)
  have hr := own_prefixG hown.r (n := k) (by omega)
  have e1 : S.ret.dropLast = S.ret.take k := by rw [List.dropLast_eq_take, hk]; rfl
  have e2 : (S.ret.take k).length = k := by simp; omega
  rw [← slv_take, ← e1] at hr
  refine ⟨hc.set rfl _, hown, ⟨?_, hown.dm, hown.oi, hown.d, ?_, hown.m, hown.c, hown.v, hown.o, hown.i⟩, by have := hB.put 1 (.slice (some ⟨q, 0, none⟩) k rc); simpa using this⟩
  · have ht := hown.top
    intro x hx kk hkk
    simp only [List.mem_cons, List.not_mem_nil, or_false] at hx
    rcases hx with rfl | rfl | hx
    · exact ht _ (by simp) kk hkk
    · exact ht (.slice (some ⟨q, 0, none⟩) S.ret.length rc) (by simp) kk hkk
    · exact ht x (by rcases hx with rfl | rfl | rfl | rfl | rfl <;> simp) kk hkk
  · show World.ownsRow _ lo _ 2 _ S.ret.dropLast.length _
    rw [e1, e2, ← e1]
    exact hr
set_option maxRecDepth 100000 in
set_option maxHeartbeats 1000000 in
theorem bw_pop_none (d r m c v o i : Value) (S : S8) (g lo hi : Nat) (w : World) (_ht : 0 ≤ S.data.length) (_h16 : S.data.length ≤ 16) (hk : S.ret.length = 0) (hhi : hi ≤ w.heap.size) (hlo : lo ≤ hi) (ho : OwnSt w lo hi d r m c v o i S) (hB : Blk w g 152 #[d, r, .int .i32 S.a, m, c, v, o, i, .int .i64 S.fault, .int .i64 S.fuel]) :
    Calls Tryz.prog 134 #[.pointer (some ⟨g, 0, none⟩)] w (BenchEnd w g lo hi d r m c v o i S (.inl 3)) := by
  obtain ⟨A, cap, rfl⟩ := own_form ho.d
  obtain ⟨R, rc, hR⟩ := own_formG ho.r
  have T0 := Lib.hid (Taken.start hhi hlo ho hB)
  have HE := Lib.hid (taken_fault T0.out (f := 3) (by decide))
  rw [hk] at hR
  subst hR
  obtain ⟨p0, p1, p2, p3, p4, p5, p6, p7, p8, p9⟩ := st_cells hB
  have wm : IntKind.i64.wrap (0 - 1) = -1 := by decide
  have wl : (-1 : Int) < 0 := by decide
  clear ho hB hhi hlo _ht _h16 hk T0
  go_enter Tryz.func134, Tryz.ntmps134
  go_wp2_with fail
  go_ret
  exact HE.out
set_option maxRecDepth 100000 in
set_option maxHeartbeats 1000000 in
theorem bw_pop_mix (d r m c v o i : Value) (S : S8) (g lo hi : Nat) (w : World) (_ht : 0 ≤ S.data.length) (h16 : S.data.length ≤ 16) (hr24 : S.ret.length ≤ 24) (hr0 : 0 < S.ret.length) (t0 z0 : Int) (hl0 : S.ret.getLast? = some (t0, z0)) (ht0 : (t0 != 0) = true) (hhi : hi ≤ w.heap.size) (hlo : lo ≤ hi) (ho : OwnSt w lo hi d r m c v o i S) (hB : Blk w g 152 #[d, r, .int .i32 S.a, m, c, v, o, i, .int .i64 S.fault, .int .i64 S.fuel]) :
    Calls Tryz.prog 134 #[.pointer (some ⟨g, 0, none⟩)] w (BenchEnd w g lo hi d r m c v o i S (.inl 11)) := by
  obtain ⟨A, cap, rfl⟩ := own_form ho.d
  obtain ⟨R, rc, hR⟩ := own_formG ho.r
  subst hR
  obtain ⟨k, hk⟩ : ∃ k, S.ret.length = k + 1 := ⟨S.ret.length - 1, by omega⟩
  have T0 := Lib.hid (Taken.start hhi hlo ho hB)
  obtain ⟨q, t, z, hR, hrc, hq, hlast, hc0, hc1⟩ := T0.out.slot hk
  subst hR
  obtain ⟨p0, p1, p2, p3, p4, p5, p6, p7, p8, p9⟩ := st_cells hB
  rw [hk] at p1
  have hkk : k ≤ 1000 := by have := hr24; omega
  have i1 : (0 : Int) ≤ (k : Int) := by omega
  have i2 : (k : Int) < (k : Int) + 1 := by omega
  have wz : IntKind.i64.wrap ((k : Int) + 1 - 1) = (k : Int) := by rw [show (k : Int) + 1 - 1 = (k : Int) by omega]; exact IntWalk.i64_in _ (by omega)
  have wy : (k : Int) + 1 - 1 = (k : Int) := by omega
  have wk : IntKind.i64.wrap (k : Int) = (k : Int) := IntWalk.i64_in _ (by omega)
  have hg : g < w.heap.size := hB.lt
  have h16' := Lib.hid h16
  have HLAST := Lib.hid hlast
  rw [hlast] at hl0
  injection hl0 with hl0
  injection hl0 with e1 e2
  subst e1 e2
  clear hr24 HLAST
  have HE := Lib.hid (taken_fault (T0.out.far (below_alloc w (.cells #[.int .i64 t, .int .i32 z] 69))) (f := 11) (by decide))
  clear T0 ho hB hhi hlo _ht h16 hk hr0 hlast h16'
  go_enter Tryz.func134, Tryz.ntmps134
  go_wp2_with fail
  go_ret
  exact HE.out
set_option maxRecDepth 100000 in
set_option maxHeartbeats 1000000 in
theorem bw_pop_num (d r m c v o i : Value) (S : S8) (g lo hi : Nat) (w : World) (_ht : 0 ≤ S.data.length) (h16 : S.data.length ≤ 16) (hr24 : S.ret.length ≤ 24) (hr0 : 0 < S.ret.length) (t0 z0 : Int) (hl0 : S.ret.getLast? = some (t0, z0)) (ht0 : (t0 != 0) = false) (hhi : hi ≤ w.heap.size) (hlo : lo ≤ hi) (ho : OwnSt w lo hi d r m c v o i S) (hB : Blk w g 152 #[d, r, .int .i32 S.a, m, c, v, o, i, .int .i64 S.fault, .int .i64 S.fuel]) :
    Calls Tryz.prog 134 #[.pointer (some ⟨g, 0, none⟩)] w (BenchEnd w g lo hi d r m c v o i S (put8 { S with ret := S.ret.dropLast } 0 [z0])) := by
  obtain ⟨A, cap, rfl⟩ := own_form ho.d
  obtain ⟨R, rc, hR⟩ := own_formG ho.r
  subst hR
  obtain ⟨k, hk⟩ : ∃ k, S.ret.length = k + 1 := ⟨S.ret.length - 1, by omega⟩
  have hfz := hB.frozen
  have T0 := Lib.hid (Taken.start hhi hlo ho hB)
  obtain ⟨q, t, z, hR, hrc, hq, hlast, hc0, hc1⟩ := T0.out.slot hk
  subst hR
  obtain ⟨p0, p1, p2, p3, p4, p5, p6, p7, p8, p9⟩ := st_cells hB
  rw [hk] at p1
  have hkk : k ≤ 1000 := by have := hr24; omega
  have i1 : (0 : Int) ≤ (k : Int) := by omega
  have i2 : (k : Int) < (k : Int) + 1 := by omega
  have wz : IntKind.i64.wrap ((k : Int) + 1 - 1) = (k : Int) := by rw [show (k : Int) + 1 - 1 = (k : Int) by omega]; exact IntWalk.i64_in _ (by omega)
  have wy : (k : Int) + 1 - 1 = (k : Int) := by omega
  have wk : IntKind.i64.wrap (k : Int) = (k : Int) := IntWalk.i64_in _ (by omega)
  have hg : g < w.heap.size := hB.lt
  have h16' := Lib.hid h16
  have HLAST := Lib.hid hlast
  rw [hlast] at hl0
  injection hl0 with hl0
  injection hl0 with e1 e2
  subst e1 e2
  clear hr24 HLAST
  obtain ⟨c1, c2, c3, c4⟩ := pop_end hk T0.out.own T0.out.box T0.out.chg
  have HH := Lib.hid (tell_end2 (S := S) (S2 := { S with ret := S.ret.dropLast }) (l := [z]) (c1.alloc (.cells #[.int .i64 t, .int .i32 z] 69)) hhi hlo rfl rfl (c2.alloc _) (c3.alloc _) (c4.alloc _) h16 (by simp))
  have f0 := hfz 1
  have hle : k ≤ rc := by omega
  clear T0 c1 c2 c3 c4 ho hB hhi hlo _ht h16 hr0 hlast h16' hfz hk
  go_enter Tryz.func134, Tryz.ntmps134
  go_wp2_with fail
  have HH2 := HH.out
  rw [World.size_alloc, World.size_setCell] at HH2
  refine HH2.mono ?_
  intro e w9 hE
  obtain ⟨u, rfl⟩ := hE.ret
  have HE := Lib.hid hE
  clear hE
  go_wp2_with fail
  go_ret
  exact HE.out
end Go.Proofs.YtdiaiflleiebfaaGreatDoor

namespace Go.Proofs.YtdiaiflleiebfaaGreatDoor
open Go.RowKit Go

/-- Bytes have been written: the bench's box, the row. -/
def ToldO (lo g : Nat) (w : World) (v : Value) (n : Nat) (X : List Nat) (x0 x1 x2 x3 x4 x5 x7 x8 x9 : Value) (e : Ending) (w' : World) : Prop :=
  ∃ v', e = .returned (.int .i64 (if 400 < X.length then 13 else 0)) ∧ Blk w' g 152 #[x0, x1, x2, x3, x4, x5, v', x7, x8, x9] ∧ w'.ownsRow lo 5 1 v' X.length (X.map b8v) ∧ PutAlt w w' g v v' n X.length
set_option maxRecDepth 100000 in
set_option maxHeartbeats 2500000 in
theorem write_any (lo g : Nat) (A : Option Addr) (n cap : Nat) (xs : List Nat) (lv : Value) (ys : List Nat) (x0 x1 x2 x3 x4 x5 x7 x8 x9 : Value) (w : World) (hn : xs.length = n) (hx : n ≤ 400) (hy : ys.length ≤ 40) (hlo : lo ≤ w.heap.size)
    (hB : Blk w g 152 #[x0, x1, x2, x3, x4, x5, .slice A n cap, x7, x8, x9]) (hO : w.ownsRow lo 5 1 (.slice A n cap) n (xs.map b8v)) (hv : RdM w lv ys) :
    Calls Tryz.prog 165 #[.pointer (some ⟨g, 0, none⟩), lv] w (ToldO lo g w (.slice A n cap) n (xs ++ ys) x0 x1 x2 x3 x4 x5 x7 x8 x9) := by
  obtain ⟨B, b, rfl⟩ := hv.form
  obtain ⟨i0, hi0, hz0, hz1, hz2⟩ := info_parts infoB8
  have SRC := Lib.hid (srcB hv)
  have OD := Lib.hid hO
  have KB := Lib.hid hB
  obtain ⟨p0, p1, p2, p3, p4, p5, p6, p7, p8, p9⟩ := st_cells hB
  have f0 := hB.frozen
  have HN := Lib.hid hn
  clear hv hO hB hn
  go_enter Tryz.func165, Tryz.ntmps165
  go_wp2_with (at_builtin; refine wpList_append_src rfl _ _ 22 rfl lo 5 i0 (.int .u8 0) 1 1 Tryz.underlying22 hi0 hz0 hz1 hz2 rfl (by decide) (.slice A n cap) n (xs.map b8v) rfl OD.out (.slice B ys.length b) ys.length (ys.map b8v) rfl SRC.out (oneB _) (by unfold maxLen; omega) (by omega) hlo ?_; intro v' w2 hown halt; refine unstop ?_)
  refine Stop.go ?_
  have hgr := halt.out.grown
  have hne : some g ≠ (Value.slice A n cap).ownBlock := box_neG KB.out OD.out (by decide)
  have KB2 := Lib.hid (KB.out.grown hgr hne)
  have hlen : (xs ++ ys).length = n + ys.length := by rw [List.length_append, HN.out]
  have hown2 : w2.ownsRow lo 5 1 v' (n + ys.length) ((xs ++ ys).map b8v) := by rw [List.map_append]; exact hown
  obtain ⟨D, dc, rfl⟩ := own_form hown2
  have hsz : w.heap.size ≤ w2.heap.size := hgr.size
  have HT : Hid (∀ e, e = .returned (.int .i64 (if 400 < n + ys.length then 13 else 0)) → ToldO lo g w (.slice A n cap) n (xs ++ ys) x0 x1 x2 x3 x4 x5 x7 x8 x9 e (w2.setCell ⟨g, 6, none⟩ (.slice D (n + ys.length) dc))) := Lib.hid (by
    rintro e rfl
    have hgd : g < w2.heap.size := KB2.out.lt
    have hned : (Value.slice D (n + ys.length) dc).ownBlock = none ∨ (Value.slice D (n + ys.length) dc).ownBlock ≠ some g := .inr fun e => box_neG KB2.out hown2 (by decide) e.symm
    refine ⟨.slice D (n + ys.length) dc, by rw [hlen], by have := KB2.out.put 6 (.slice D (n + ys.length) dc); simpa using this, ?_, ?_⟩
    · rw [hlen]
      exact hown2.kept (row := some g) (only_setCell (World.grownBy.refl _ _) (.inl rfl) _) hned
    · rw [hlen]
      rcases halt.out with ⟨q, cp, e1, h1, e2, h2⟩ | ⟨h1, h2⟩
      · exact .inl ⟨q, cp, e1, e2, h1, (Chg.of_grown h2 (P := fun k => k = g ∨ k = q) (fun k hk => .inr (by injection hk with hk; exact hk.symm))).set (.inl rfl) _⟩
      · exact .inr ⟨(Chg.of_below h1 (P := fun k => k = g)).set rfl _, h2⟩)
  clear p0 p1 p2 p3 p4 p5 p6 p7 p8 p9 f0 hgr hne
  obtain ⟨p0, p1, p2, p3, p4, p5, p6, p7, p8, p9⟩ := st_cells KB2.out
  have f0 := KB2.out.frozen
  clear hown halt hown2 hlen KB OD SRC
  by_cases h16 : 400 < n + ys.length
  · have g1 : (400 : Int) < (n : Int) + (ys.length : Int) := by omega
    have HT2 := Lib.hid (HT.out _ (by rw [if_pos h16]))
    clear h16 HT
    go_wp2_with fail
    go_ret
    exact HT2.out
  · have g1 : ¬ (400 : Int) < (n : Int) + (ys.length : Int) := by omega
    have HT2 := Lib.hid (HT.out _ (by rw [if_neg h16]))
    clear h16 HT
    go_wp2_with fail
    go_ret
    exact HT2.out
end Go.Proofs.YtdiaiflleiebfaaGreatDoor
