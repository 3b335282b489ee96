/-
  Bodies, without shape sometimes, are drawn.
  A list of ops that comes in, opened.
  Lists of definitions (a name and a list of ops each).
-/
import Derived.Test.YtofikgjoiidhmaaGreatDoorCD4
import Derived.Test.YtofikgjoiidhmaaGreatDoorCD3
import Derived.Test.YtofikgjoiidhmaaGreatDoorCD1
import Derived.Deep.Slices
namespace Go.Proofs.YtofikgjoiidhmaaGreatDoor
open Go.RowKit Go

def lenV : Value → Nat | .slice _ n _ => n | _ => 0
theorem BodyAt.tight {g B : Nat} {w wr : World} {v : Value} {xs : List (Int × Int)} (h : BodyAt g w B v xs wr) : BodyAt g w xs.length v xs wr := ⟨Nat.le_refl _, h.rng, h.row, h.cur, h.only, h.glt⟩
theorem BodyAt.set {g B q c : Nat} {w wr W2 : World} {xs : List (Int × Int)} (h : BodyAt g w B (.slice (some ⟨q, 0, none⟩) xs.length c) xs wr) {i : Nat} (hi : i < xs.length) {k z : Int} (hz : -2147483648 ≤ z ∧ z ≤ 2147483647) (hW : W2 = (wr.setCell ⟨q, i * 2, none⟩ (.int .i64 k)).setCell ⟨q, i * 2 + 1, none⟩ (.int .i32 z)) :
    BodyAt g w B (.slice (some ⟨q, 0, none⟩) xs.length c) (xs.set i (k, z)) W2 := by
  have s1 := h.row.stored (i * 2) (.int .i64 k)
  have s2 := s1.1.stored (i * 2 + 1) (.int .i32 z)
  have hs := s2.1
  rw [slv_set hi (k, z)] at hs
  have hg : wr.grownBy W2 (some q) := by rw [hW]; exact only_trans s1.2 s2.2
  rw [← hW] at hs
  have hq := (World.ownsRow.lt h.row q (by simp [Value.ownBlock])).1
  have hgl := h.glt
  refine ⟨by rw [List.length_set]; exact h.len, fun o ho => ?_, by rw [List.length_set]; exact hs, h.cur.grown hg (fun k hk => by injection hk with hk; omega), only_app h.only hg (fun k hk => by injection hk with hk; omega), hgl⟩
  rcases List.mem_or_eq_of_mem_set ho with h1 | h1
  · exact h.rng o h1
  · rw [h1]; exact hz
set_option maxRecDepth 100000 in
set_option maxHeartbeats 8000000 in
theorem any_any (g : Nat) (w : World) (hc : CurAt w g) : Calls Tryz.prog 30 #[.pointer (some ⟨g, 0, none⟩)] w (DrewBody g 700 w) := by
  obtain ⟨i0, hi0, hz0, hz1, hz2⟩ := info_parts infoS
  have HB := Lib.hid (body_any 3 (by omega) g 3 (by omega) (by omega) w hc)
  clear hc
  go_enter Tryz.func30, Tryz.ntmps30
  go_wp2_with fail
  refine HB.out.mono ?_
  rintro e w1 ⟨v1, xs, rfl, h1⟩
  have B1 := Lib.hid (show BodyAt g w 677 v1 xs w1 from h1)
  obtain ⟨E, ec, rfl⟩ := own_formS h1.row
  have HS := Lib.hid (below_any g 8 (by omega) (by omega) w1 h1.cur)
  have hgl := h1.glt
  clear h1 HB
  go_wp2_with fail
  refine HS.out.mono ?_
  rintro e w2 ⟨s, rfl, ⟨hs0, hs1⟩, hc2, hg2⟩
  have B2 := Lib.hid (B1.out.drawn hc2 hg2)
  have hs2 : s ≤ 7 := by simpa using hs1
  have hlen := B2.out.len
  clear hc2 hg2 HS B1 hs1
  by_cases h0 : s = 0
  · subst h0
    have HK := Lib.hid (below_any g 11 (by omega) (by omega) w2 B2.out.cur)
    go_wp2_with fail
    refine HK.out.mono ?_
    rintro e w3 ⟨x, rfl, ⟨hx0, hx1⟩, hc3, hg3⟩
    have hx2 : x ≤ 10 := by simpa using hx1
    have B3 := Lib.hid (B2.out.drawn hc3 hg3)
    clear hc3 hg3 HK B2 hx1
    have HK := Lib.hid (below_any g 3 (by omega) (by omega) w3 B3.out.cur)
    go_wp2_with fail
    refine HK.out.mono ?_
    rintro e w4 ⟨y, rfl, ⟨hy0, hy1⟩, hc4, hg4⟩
    have hy2 : y ≤ 2 := by simpa using hy1
    have wy : IntKind.i32.wrap y = y := IntWalk.i32_in _ (by omega)
    have wx : IntKind.i64.wrap (x - 1) = x - 1 := IntWalk.i64_in _ (by omega)
    have B4 := Lib.hid ((B3.out.drawn hc4 hg4).alloc (.cells #[.int .i64 (x - 1), .int .i32 y] 70))
    have SRC := Lib.hid (src_two w4 (.int .i64 (x - 1)) (.int .i32 y))
    clear hc4 hg4 HK B3 hy1
    go_wp2_with (at_builtin; refine wpList_append_src rfl _ _ 57 rfl w.heap.size 70 i0 (.agg #[.int .i64 0, .int .i32 0]) 2 16 Tryz.underlying57 hi0 hz0 hz1 hz2 rfl (by decide) _ xs.length _ rfl (B4.out.row) _ 1 [.int .i64 (x - 1), .int .i32 y] rfl SRC.out (by simp [Value.oneCell']) (by unfold maxLen; omega) (by omega) (by have := B4.out.only.size; omega) ?_; intro v9 w9 ho9 ha9; refine unstop ?_)
    refine Stop.go ?_
    have B9 := Lib.hid (B4.out.app (ys := [(x - 1, y)]) ho9 ha9.out rfl (rng_one (by omega)) (C := 700) (by omega))
    clear ho9 ha9 SRC B4
    go_wp2_with fail
    go_ret
    exact ⟨_, _, rfl, B9.out⟩
  by_cases h1 : s = 1
  · subst h1
    by_cases hn : xs.length = 0
    · have hn0 : ¬ (0 : Int) < (xs.length : Int) := by omega
      clear hn
      go_wp2_with fail
      go_ret
      exact ⟨_, xs, rfl, B2.out.more (by omega)⟩
    · have hn0 : (0 : Int) < (xs.length : Int) := by omega
      obtain ⟨q, rfl, hqc⟩ : ∃ q, E = some ⟨q, 0, none⟩ ∧ xs.length ≤ ec := by
        rcases B2.out.row.2 with ⟨-, h⟩ | ⟨q, cp, cur, e, hb, hg, hnc, -⟩
        · omega
        · injection e with e1 e2 e3
          exact ⟨q, e1, by omega⟩
      have HK := Lib.hid (below_any g (xs.length : Int) (by omega) (by omega) w2 B2.out.cur)
      clear hn
      go_wp2_with fail
      refine HK.out.mono ?_
      rintro e w3 ⟨p, rfl, ⟨hp0, hp1⟩, hc3, hg3⟩
      rw [if_neg (by omega)] at hp1
      obtain ⟨j, rfl⟩ : ∃ j : Nat, p = (j : Int) := ⟨p.toNat, by omega⟩
      have hj : j < xs.length := by omega
      have B3 := Lib.hid (B2.out.drawn hc3 hg3)
      clear hc3 hg3 HK B2 hp1
      have HK := Lib.hid (below_any g 11 (by omega) (by omega) w3 B3.out.cur)
      go_wp2_with fail
      refine HK.out.mono ?_
      rintro e w4 ⟨x, rfl, ⟨hx0, hx1⟩, hc4, hg4⟩
      have hx2 : x ≤ 10 := by simpa using hx1
      have B4 := Lib.hid (B3.out.drawn hc4 hg4)
      clear hc4 hg4 HK B3 hx1
      have B4A := Lib.hid (B4.out.alloc (.cells (([0, 23, 24, -1] : List Int).map (Value.int .i64)).toArray 3))
      have PK := Lib.hid (pickint_any g w4.heap.size [0, 23, 24, -1] (w4.alloc (.cells (([0, 23, 24, -1] : List Int).map (Value.int .i64)).toArray 3)) B4A.out.cur (ints_new w4 3 _) (by have := B4.out.only.size; omega) (by simp) (by decide) (by decide))
      go_wp2_with fail
      refine PK.out.mono ?_
      rintro e w5 ⟨y, rfl, hy, hc5, hg5⟩
      have hyr : -1 ≤ y ∧ y ≤ 24 := by
        simp only [List.mem_cons, List.not_mem_nil, or_false] at hy
        omega
      have B5 := Lib.hid (B4A.out.drawn hc5 hg5)
      have wy : IntKind.i32.wrap y = y := IntWalk.i32_in _ (by omega)
      have wx : IntKind.i64.wrap (x - 1) = x - 1 := IntWalk.i64_in _ (by omega)
      have i1 : (0 : Int) ≤ (j : Int) := by omega
      have i2 : (j : Int) < (xs.length : Int) := by omega
      obtain ⟨u0, d0⟩ : ∃ u, w5.cell? ⟨q, j * 2, none⟩ = some u := ⟨_, (B5.out.row.cellAt (j * 2) (by omega)).trans (slv_get0 hj)⟩
      obtain ⟨u1, d1⟩ : ∃ u, w5.cell? ⟨q, j * 2 + 1, none⟩ = some u := ⟨_, (B5.out.row.cellAt (j * 2 + 1) (by omega)).trans (slv_get1 hj)⟩
      have f0 := B5.out.row.frozenAt (j * 2)
      have f1 := B5.out.row.frozenAt (j * 2 + 1)
      have B6 := Lib.hid (B5.out.set hj (k := x - 1) (z := y) (by omega) rfl)
      clear hy hc5 hg5 PK B4 B4A B5 hp0
      go_wp2_with fail
      go_ret
      exact ⟨_, _, rfl, B6.out.more (by omega)⟩
  by_cases h2 : s = 2
  · subst h2
    clear h0 h1 hs0 hs2
    go_wp2_with fail
    go_loopw [3] (fun vo wr => ∃ (u : Value) (ys : List (Int × Int)), vo = u ∧ Hid (BodyAt g w 677 u ys wr)) (fun vo _ => 62 - lenV vo)
    case atStart => exact ⟨_, xs, rfl, B2⟩
    case round =>
      obtain ⟨u, ys, rfl, BR⟩ := hrel
      clear B2
      obtain ⟨F, fc, rfl⟩ := own_formS BR.out.row
      have hyl := BR.out.len
      have HK := Lib.hid (below_any g 4 (by omega) (by omega) _ BR.out.cur)
      go_wp2_with fail
      refine HK.out.mono ?_
      rintro e w3 ⟨x, rfl, ⟨hx0, hx1⟩, hc3, hg3⟩
      have hx2 : x ≤ 3 := by simpa using hx1
      have B3 := Lib.hid (BR.out.drawn hc3 hg3)
      clear hc3 hg3 HK BR hx1
      have wx : IntKind.i64.wrap (58 + x) = 58 + x := IntWalk.i64_in _ (by omega)
      by_cases hp : (ys.length : Int) < 58 + x
      · have B4 := Lib.hid (B3.out.tight.alloc (.cells #[.int .i64 0, .int .i32 1] 70))
        have SRC := Lib.hid (src_two w3 (.int .i64 0) (.int .i32 1))
        have hy60 : ys.length ≤ 60 := by omega
        clear B3
        go_wp2_with (at_builtin; refine wpList_append_src rfl _ _ 57 rfl w.heap.size 70 i0 (.agg #[.int .i64 0, .int .i32 0]) 2 16 Tryz.underlying57 hi0 hz0 hz1 hz2 rfl (by decide) _ ys.length _ rfl (B4.out.row) _ 1 [.int .i64 0, .int .i32 1] rfl SRC.out (by simp [Value.oneCell']) (by unfold maxLen; omega) (by omega) (by have := B4.out.only.size; omega) ?_; intro v9 w9 ho9 ha9; refine unstop ?_)
        refine Stop.go ?_
        have B9 := Lib.hid (B4.out.app (ys := [(0, 1)]) ho9 ha9.out rfl (rng_one (by decide)) (C := 677) (by omega))
        obtain ⟨E9, ec9, rfl⟩ := own_formS ho9
        clear ho9 ha9 SRC B4
        go_wp2_with fail
        go_roundw
        case rel => exact ⟨_, _, rfl, B9⟩
        case measure => simp [lenV]; omega
      · go_wp2_with fail
        go_ret
        exact ⟨_, ys, rfl, B3.out.more (by omega)⟩
  · have q0 : (s == 0) = false := by simpa using h0
    have q1 : (s == 1) = false := by simpa using h1
    have q2 : (s == 2) = false := by simpa using h2
    clear h0 h1 h2
    go_wp2_with fail
    go_ret
    exact ⟨_, xs, rfl, B2.out.more (by omega)⟩
end Go.Proofs.YtofikgjoiidhmaaGreatDoor

namespace Go.Proofs.YtofikgjoiidhmaaGreatDoor
open Go.ChangeShapes Go.WideShapes Go.ChangeAt Go.RowKit Go

theorem lt_of_cell_p {w : World} {a : Addr} {v : Value} (h : w.cell? a = some v) : a.block < w.heap.size := by
  rcases Nat.lt_or_ge a.block w.heap.size with hl | hl
  · exact hl
  · have e : w.heap[a.block]? = none := Array.getElem?_eq_none hl
    simp [World.cell?, e] at h
theorem wf32o (n : Int) (h : (Lit.int .i32 n).wf = true) : -2147483648 ≤ n ∧ n ≤ 2147483647 := by
  simp [Lit.wf, IntKind.min, IntKind.max, IntKind.signed, IntKind.bits] at h
  omega
theorem wf64o (n : Int) (h : (Lit.int .i64 n).wf = true) : -9223372036854775808 ≤ n ∧ n ≤ 9223372036854775807 := by
  simp [Lit.wf, IntKind.min, IntKind.max, IntKind.signed, IntKind.bits] at h
  omega
/-- A list of ops that comes in. -/
def OpsIn (W : World) (A : Option Addr) (len c : Nat) : Prop :=
  len ≤ 9223372036854775807 ∧ (len ≤ 4611686018427387904 → ∃ xs : List (Int × Int), xs.length = len ∧ (∀ x ∈ xs, (-9223372036854775808 ≤ x.1 ∧ x.1 ≤ 9223372036854775807) ∧ (-2147483648 ≤ x.2 ∧ x.2 ≤ 2147483647)) ∧ RdS W (.slice A len c) xs)
end Go.Proofs.YtofikgjoiidhmaaGreatDoor

namespace Go.Proofs.YtofikgjoiidhmaaGreatDoor
open Go.RowKit Go

def dfv : List (ByteArray × Value) → List Value
  | [] => []
  | s :: r => .string s.1 :: s.2 :: dfv r
theorem dfv_len (xs : List (ByteArray × Value)) : (dfv xs).length = xs.length * 2 := by
  induction xs with
  | nil => rfl
  | cons s r ih => simp only [dfv, List.length_cons, ih]; omega
theorem dfv_app (xs ys : List (ByteArray × Value)) : dfv (xs ++ ys) = dfv xs ++ dfv ys := by
  induction xs with
  | nil => rfl
  | cons s r ih => simp only [dfv, List.cons_append, ih]
theorem dfv_get0 {xs : List (ByteArray × Value)} {i : Nat} (h : i < xs.length) : (dfv xs)[i * 2]? = some (.string xs[i].1) := by
  induction xs generalizing i with
  | nil => simp at h
  | cons s r ih =>
    cases i with
    | zero => simp [dfv]
    | succ i =>
      have := ih (i := i) (by simpa using h)
      rw [show (i + 1) * 2 = i * 2 + 2 by omega]
      simpa [dfv] using this
theorem dfv_get1 {xs : List (ByteArray × Value)} {i : Nat} (h : i < xs.length) : (dfv xs)[i * 2 + 1]? = some xs[i].2 := by
  induction xs generalizing i with
  | nil => simp at h
  | cons s r ih =>
    cases i with
    | zero => simp [dfv]
    | succ i =>
      have := ih (i := i) (by simpa using h)
      rw [show (i + 1) * 2 + 1 = i * 2 + 1 + 2 by omega]
      simpa [dfv] using this
theorem dfv_set0 {xs : List (ByteArray × Value)} {i : Nat} (h : i < xs.length) (m : ByteArray) : (dfv xs).set (i * 2) (.string m) = dfv (xs.set i (m, xs[i].2)) := by
  induction xs generalizing i with
  | nil => simp at h
  | cons s r ih =>
    cases i with
    | zero => simp [dfv]
    | succ i =>
      have := ih (i := i) (by simpa using h)
      rw [show (i + 1) * 2 = i * 2 + 2 by omega]
      simpa [dfv] using this
theorem dfv_set1 {xs : List (ByteArray × Value)} {i : Nat} (h : i < xs.length) (m : Value) : (dfv xs).set (i * 2 + 1) m = dfv (xs.set i (xs[i].1, m)) := by
  induction xs generalizing i with
  | nil => simp at h
  | cons s r ih =>
    cases i with
    | zero => simp [dfv]
    | succ i =>
      have := ih (i := i) (by simpa using h)
      rw [show (i + 1) * 2 + 1 = i * 2 + 1 + 2 by omega]
      simpa [dfv] using this
theorem dfv_set {xs : List (ByteArray × Value)} {i : Nat} (h : i < xs.length) (s : ByteArray × Value) : ((dfv xs).set (i * 2) (.string s.1)).set (i * 2 + 1) s.2 = dfv (xs.set i s) := by
  rw [dfv_set0 h, dfv_set1 (by simpa using h)]
  simp
/-- A definition: its name and its ops. -/
abbrev Df := ByteArray × List (Int × Int)
/-- A list of definitions that can be read. -/
def RdD (w : World) (v : Value) (ds : List Df) : Prop :=
  ∃ (A : Option Addr) (cap : Nat), v = .slice A ds.length cap ∧ ∀ i (h : i < ds.length), ∃ a vb, A = some a ∧ a.block < w.heap.size ∧ w.cell? (a.add (i * 2)) = some (.string ds[i].1) ∧ w.cell? ((a.add (i * 2)).add 1) = some vb ∧ RdS w vb ds[i].2
theorem RdD.below {w w' : World} {v : Value} {ds : List Df} (h : RdD w v ds) (hb : Below w.heap.size w w') : RdD w' v ds := by
  obtain ⟨A, cap, rfl, hc⟩ := h
  refine ⟨A, cap, rfl, fun i hi => ?_⟩
  obtain ⟨a, vb, rfl, e2, e3, e4, e5⟩ := hc i hi
  exact ⟨a, vb, rfl, by have := hb.size; omega, (hb.cell (by rw [addr_addb]; exact e2)).trans e3, (hb.cell (by rw [addr_addb, addr_addb]; exact e2)).trans e4, e5.below hb⟩
theorem RdD.form {w : World} {v : Value} {ds : List Df} (h : RdD w v ds) : ∃ A cap, v = .slice A ds.length cap := by
  obtain ⟨A, cap, e, -⟩ := h
  exact ⟨A, cap, e⟩
/-- The cells of one definition of a list, as the walk spells them. -/
theorem RdD.item {w : World} {A : Option Addr} {n cap : Nat} {ds : List Df} (h : RdD w (.slice A n cap) ds) {i : Nat} (hi : i < ds.length) : ∃ a B m bc, A = some a ∧ a.block < w.heap.size ∧ w.cell? (a.add (i * 2)) = some (.string ds[i].1) ∧ w.cell? ⟨(a.add (i * 2)).block, (a.add (i * 2)).off + 1, none⟩ = some (.slice B m bc) ∧ RdS w (.slice B m bc) ds[i].2 ∧ m = ds[i].2.length := by
  obtain ⟨A3, c4, hv4, hc4⟩ := h
  injection hv4 with e1 e2 e3
  subst e1 e3
  obtain ⟨a, vb, rfl, hb, q0, q1, q2⟩ := hc4 i hi
  obtain ⟨B, bc, rfl⟩ := q2.form
  exact ⟨a, B, _, bc, rfl, hb, q0, q1, q2, rfl⟩
/-- Definitions whose parts aren't too long. -/
def SmD (ds : List Df) : Prop := ds.length ≤ 1048576 ∧ ∀ d ∈ ds, d.1.size ≤ 1048576 ∧ d.2.length ≤ 1048576 ∧ ∀ o ∈ d.2, -2147483648 ≤ o.2 ∧ o.2 ≤ 2147483647
/-- A new list of definitions. -/
def NewD (w : World) (ds : List Df) (e : Ending) (w' : World) : Prop := ∃ v, e = .returned v ∧ RdD w' v ds ∧ Below w.heap.size w w'
/-- A list of definitions that comes in. -/
def DefsIn (W : World) (A : Option Addr) (len : Nat) : Prop :=
  len ≤ 9223372036854775807 ∧ ∃ (f : Nat → ByteArray × Option Addr × Nat × Nat), ∀ i, i < len → ∃ a, A = some a ∧ a.block < W.heap.size ∧ W.cell? (a.add (i * 2)) = some (.string (f i).1) ∧ W.cell? ((a.add (i * 2)).add 1) = some (.slice (f i).2.1 (f i).2.2.1 (f i).2.2.2) ∧ (f i).1.size ≤ 9223372036854775807 ∧ OpsIn W (f i).2.1 (f i).2.2.1 (f i).2.2.2
theorem rdd_of {W : World} {A : Option Addr} {len c : Nat} (hlen : len ≤ 1048576) (f : Nat → ByteArray × Option Addr × Nat × Nat) (hf : ∀ i, i < len → ∃ a, A = some a ∧ a.block < W.heap.size ∧ W.cell? (a.add (i * 2)) = some (.string (f i).1) ∧ W.cell? ((a.add (i * 2)).add 1) = some (.slice (f i).2.1 (f i).2.2.1 (f i).2.2.2) ∧ (f i).1.size ≤ 9223372036854775807 ∧ OpsIn W (f i).2.1 (f i).2.2.1 (f i).2.2.2)
    (hs : ∀ i, i < len → (f i).1.size ≤ 1048576 ∧ (f i).2.2.1 ≤ 1048576) : ∃ ds : List Df, ds.length = len ∧ SmD ds ∧ RdD W (.slice A len c) ds := by
  have key : ∀ i, i < len → ∃ xs : List (Int × Int), xs.length = (f i).2.2.1 ∧ (∀ o ∈ xs, -2147483648 ≤ o.2 ∧ o.2 ≤ 2147483647) ∧ RdS W (.slice (f i).2.1 (f i).2.2.1 (f i).2.2.2) xs := fun i hi => by
    obtain ⟨a, -, -, -, -, -, -, ho⟩ := hf i hi
    obtain ⟨xs, h1, h2, h3⟩ := ho (by have := (hs i hi).2; omega)
    exact ⟨xs, h1, fun o ho => (h2 o ho).2, h3⟩
  obtain ⟨g, hg⟩ := Go.Deep.choose_lt key
  refine ⟨(List.range len).map fun i => ((f i).1, g i), by simp, ⟨by simp; omega, fun d hd => ?_⟩, A, c, by simp, fun i hi => ?_⟩
  · obtain ⟨i, hi, rfl⟩ := List.mem_map.1 hd
    have hi := List.mem_range.1 hi
    exact ⟨(hs i hi).1, by rw [(hg i hi).1]; exact (hs i hi).2, (hg i hi).2.1⟩
  · have hil : i < len := by simpa using hi
    obtain ⟨a, e1, e2, e3, e4, -⟩ := hf i hil
    exact ⟨a, _, e1, e2, by simpa using e3, e4, by simpa using (hg i hil).2.2⟩
end Go.Proofs.YtofikgjoiidhmaaGreatDoor
