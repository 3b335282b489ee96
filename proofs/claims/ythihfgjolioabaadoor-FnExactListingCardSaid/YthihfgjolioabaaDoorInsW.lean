/-
  Lists of steps: whether two are alike, a copy of one, the marks that are laid into one, whether they lie there.
-/
import Derived.Test.YthihfgjolioabaaDoorIns
import Derived.Handy
import Derived.Deep.RegionHeld3
namespace Go.Proofs.YthihfgjolioabaaDoor
open Go.RowKit Go

/-- The cells of one step of a list, as the walk spells them. -/
theorem RdIc.item {w : World} {A : Option Addr} {n cap : Nat} {xs : List (Int × Int)} (h : RdIc w (.slice A n cap) xs) {i : Nat} (hi : i < xs.length) : ∃ a, A = some a ∧ a.block < w.heap.size ∧ w.cell? (a.add (i * 2)) = some (.int .i64 xs[i].1) ∧ w.cell? ⟨(a.add (i * 2)).block, (a.add (i * 2)).off + 1, none⟩ = some (.int .i64 xs[i].2) := by
  obtain ⟨A3, c4, hv4, -, hc4⟩ := h
  injection hv4 with e1 e2 e3
  subst e1 e3
  obtain ⟨a, rfl, hb, q0, q1⟩ := hc4 i hi
  exact ⟨a, rfl, hb, q0, q1⟩
theorem infoIc : (Tryd.prog.info? 25).map (fun i => (i.zero, i.size, i.bytes)) = some (some (.agg #[.int .i64 0, .int .i64 0]), 2, 16) := by kernel_rfl

set_option maxHeartbeats 1000000 in
theorem eqins_same (x y : Int) (w : World) : Calls Tryd.prog 23 #[.agg #[.int .i64 x, .int .i64 y], .agg #[.int .i64 x, .int .i64 y]] w fun e w' => e = .returned (.bool true) ∧ Below w.heap.size w w' := by
  have q0 : (x != x) = false := by simp
  have q1 : (y != y) = false := by simp
  go_enter Tryd.func23, Tryd.ntmps23
  go_wp2
  go_ret
  exact ⟨rfl, by go_grown⟩

set_option maxHeartbeats 4000000 in
theorem eqIc_same (a b : Value) (xs : List (Int × Int)) (w : World) (ha : RdIc w a xs) (hb : RdIc w b xs) :
    Calls Tryd.prog 12 #[a, b] w fun e w' => e = .returned (.bool true) ∧ Below w.heap.size w w' := by
  obtain ⟨A, ca, rfl⟩ := ha.form
  obtain ⟨B, cb, rfl⟩ := hb.form
  have HA := Lib.hid (fun W (h : Below w.heap.size w W) => ha.below h)
  have HB := Lib.hid (fun W (h : Below w.heap.size w W) => hb.below h)
  have hm : xs.length ≤ 4611686018427387904 := by
    obtain ⟨_, _, _, h, _⟩ := ha
    exact h
  clear ha hb
  have hl' : ((xs.length : Int) != (xs.length : Int)) = false := by simp
  go_enter Tryd.func12, Tryd.ntmps12
  go_wp2
  go_loopw [5] (fun vi wr => ∃ i : Nat, vi = .int .i64 i ∧ i ≤ xs.length ∧ Hid (Below w.heap.size w wr)) (fun vi _ => xs.length - (intOf vi).toNat)
  case atStart => exact ⟨0, rfl, by omega, Lib.hid (Below.refl _ _)⟩
  case round =>
    obtain ⟨i, rfl, hi, HW⟩ := hrel
    by_cases hp : i < xs.length
    · obtain ⟨a, rfl, la, p0, p1⟩ := (HA.out wr HW.out).item hp
      obtain ⟨b, rfl, lb, q0, q1⟩ := (HB.out wr HW.out).item hp
      obtain ⟨x, hx⟩ : ∃ x, xs[i] = x := ⟨_, rfl⟩
      obtain ⟨x1, x2⟩ := x
      rw [hx] at p0 p1 q0 q1
      have LA : Hid ((a.add (i * 2)).block < wr.heap.size) := Lib.hid (by rw [addr_addb]; exact la)
      have LB : Hid ((b.add (i * 2)).block < wr.heap.size) := Lib.hid (by rw [addr_addb]; exact lb)
      have i1 : (0 : Int) ≤ (i : Int) := by omega
      have i2 : (i : Int) < (xs.length : Int) := by omega
      clear hx la lb
      go_wp2_with fail
      go_region_held3 (fun w' => w'.cell? (a.add (i * 2)) = some (.int .i64 x1) ∧ w'.cell? ⟨(a.add (i * 2)).block, (a.add (i * 2)).off + 1, none⟩ = some (.int .i64 x2) ∧ w'.cell? (b.add (i * 2)) = some (.int .i64 x1) ∧ w'.cell? ⟨(b.add (i * 2)).block, (b.add (i * 2)).off + 1, none⟩ = some (.int .i64 x2)) (first | exact ⟨p0, p1, q0, q1⟩ | go_keep | exact ⟨(hbV.cell LA.out).trans p0, (hbV.cell (p := ⟨(a.add (i * 2)).block, (a.add (i * 2)).off + 1, none⟩) LA.out).trans p1, (hbV.cell LB.out).trans q0, (hbV.cell (p := ⟨(b.add (i * 2)).block, (b.add (i * 2)).off + 1, none⟩) LB.out).trans q1⟩) ((go_at_call 23; refine (eqins_same _ _ _).mono ?_; rintro e V ⟨rfl, hbV⟩))
      have HW2 := Lib.hid (HW.out.trans (((Below.refl wr.heap.size wr).drew.trans hbV).mono HW.out.size))
      clear hbV HW p0 p1 q0 q1
      go_wp2_with fail
      go_roundw
      case rel => exact ⟨i + 1, by go_num, by omega, HW2⟩
      case measure => simp [intOf]; omega
    · go_wp2
      go_ret
      exact ⟨rfl, HW.out⟩

theorem cdv_mid {xs : List (Int × Int)} {k i : Nat} (h : i < xs.length) : ((cdv (halfIc k i xs)).set (i * 2) (.int .i64 ((k : Int) + 2 * (i : Int)))).set (i * 2 + 1) (.int .i64 ((k : Int) + 2 * (i : Int) + 1)) = cdv (halfIc k (i + 1) xs) := by
  have hl := halfIc_len k i xs (by omega)
  rw [cdv_set (xs := halfIc k i xs) (by omega) ((k : Int) + 2 * (i : Int), (k : Int) + 2 * (i : Int) + 1), halfIc_set h]
set_option maxHeartbeats 1000000 in
theorem toins_any (x y : Int) (w : World) : Calls Tryd.prog 6 #[.agg #[.int .i64 x, .int .i64 y]] w fun e w' => e = .returned (.agg #[.int .i64 x, .int .i64 y]) ∧ Below w.heap.size w w' := by
  go_enter Tryd.func6, Tryd.ntmps6
  go_wp2
  exact bodyPost_ret (v := .agg #[.int .i64 x, .int .i64 y]) (by simp [results, Tryd.results6, go_sem]) rfl ⟨rfl, by go_grown⟩

def copiedIc (xs : List (Int × Int)) (i : Nat) : List (Int × Int) := xs.take i ++ List.replicate (xs.length - i) (0, 0)
theorem copiedIc_len (xs : List (Int × Int)) (i : Nat) (h : i ≤ xs.length) : (copiedIc xs i).length = xs.length := by simp [copiedIc]; omega
theorem cdv_rep (n : Nat) : cdv (List.replicate n (0, 0)) = (List.replicate n [Value.int .i64 0, Value.int .i64 0]).flatten := by
  induction n with
  | zero => rfl
  | succ n ih => simp only [List.replicate_succ, cdv, ih, List.flatten_cons, List.cons_append, List.nil_append]
theorem copiedIc_zero (xs : List (Int × Int)) : cdv (copiedIc xs 0) = (List.replicate xs.length [Value.int .i64 0, Value.int .i64 0]).flatten := by simp [copiedIc, cdv_rep]
theorem copiedIc_full (xs : List (Int × Int)) : copiedIc xs xs.length = xs := by simp [copiedIc]
theorem copiedIc_set {xs : List (Int × Int)} {i : Nat} (h : i < xs.length) : ((cdv (copiedIc xs i)).set (i * 2) (.int .i64 xs[i].1)).set (i * 2 + 1) (.int .i64 xs[i].2) = cdv (copiedIc xs (i + 1)) := by
  rw [cdv_set (xs := copiedIc xs i) (by rw [copiedIc_len xs i (by omega)]; exact h)]
  congr 1
  unfold copiedIc
  obtain ⟨m, hm⟩ : ∃ m, xs.length - i = m + 1 := ⟨xs.length - i - 1, by omega⟩
  rw [hm, show xs.length - (i + 1) = m by omega, List.replicate_succ, List.set_append_right _ _ (by simp; omega)]
  have : i - (xs.take i).length = 0 := by simp; omega
  rw [this, List.set_cons_zero, List.take_succ_eq_append_getElem h, List.append_assoc]
  rfl
theorem made_cdv (n : Nat) : (madeCells #[Value.int .i64 0, Value.int .i64 0] (n * 2)).toList = cdv (List.replicate n (0, 0)) := by
  refine List.ext_getElem (by simp [madeCells, cdv_len]) fun i h1 h2 => ?_
  have h3 : i < n * 2 := by simpa [madeCells] using h1
  obtain ⟨j, hj⟩ : ∃ j, i = j * 2 ∨ i = j * 2 + 1 := ⟨i / 2, by omega⟩
  rcases hj with rfl | rfl
  · have := cdv_get0 (xs := List.replicate n (0, 0)) (i := j) (by simp; omega)
    rw [List.getElem?_eq_getElem h2] at this
    rw [Option.some.inj this]
    simp [madeCells]
  · have := cdv_get1 (xs := List.replicate n (0, 0)) (i := j) (by simp; omega)
    rw [List.getElem?_eq_getElem h2] at this
    rw [Option.some.inj this]
    have e : (j * 2 + 1) % 2 = 1 := by omega
    simp [madeCells, e]
set_option maxHeartbeats 4000000 in
theorem toIc_any (v : Value) (xs : List (Int × Int)) (hx : xs.length ≤ 4194304) (W : World) (ha : RdIc W v xs) : Calls Tryd.prog 10 #[v] W (NewIc W xs) := by
  obtain ⟨i0, hi, hz0, hz1, hz2⟩ := info_parts infoIc
  obtain ⟨A, ca, rfl⟩ := ha.form
  have HA := Lib.hid (fun w (h : Below W.heap.size W w) => ha.below h)
  clear ha
  go_enter Tryd.func10, Tryd.ntmps10
  go_wp2_with (refine wpList_make_full _ rfl _ _ _ rfl W.heap.size 25 i0 (.agg #[.int .i64 0, .int .i64 0]) 2 Tryd.underlying31 hi hz0 hz1 .i64 .i64 _ _ xs.length rfl rfl rfl rfl (by rw [hz2]; omega) (by unfold maxLen; omega) (Nat.le_refl _) ?_; intro w1 hown hgr)
  have hb1 : Below W.heap.size W w1 := (Below.refl _ _).grown hgr (Nat.le_refl _) (fun k hk => by cases hk)
  have hown1 : w1.ownsRow W.heap.size 25 2 (.slice (some ⟨W.heap.size, 0, none⟩) xs.length xs.length) xs.length (cdv (copiedIc xs 0)) := by
    have e : (madeCells (Value.agg #[Value.int .i64 0, Value.int .i64 0]).cells (xs.length * 2)).toList = cdv (copiedIc xs 0) := by
      have ec : copiedIc xs 0 = List.replicate xs.length (0, 0) := by simp [copiedIc]
      rw [ec]
      exact made_cdv _
    rw [e] at hown
    exact hown
  have HB1 := Lib.hid hb1
  have HOWN1 := Lib.hid hown1
  clear hown hgr hb1 hown1
  go_loopw [4] (fun vi wr => ∃ i : Nat, vi = .int .i64 i ∧ i ≤ xs.length ∧ Hid (wr.ownsRow W.heap.size 25 2 (.slice (some ⟨W.heap.size, 0, none⟩) xs.length xs.length) xs.length (cdv (copiedIc xs i))) ∧ Hid (Below W.heap.size W wr)) (fun vi _ => xs.length - (intOf vi).toNat)
  case atStart => exact ⟨0, rfl, by omega, HOWN1, HB1⟩
  case round =>
    clear HOWN1 HB1
    obtain ⟨i, rfl, hi2, HO, HB⟩ := hrel
    by_cases hp : i < xs.length
    · obtain ⟨ga, rfl, -, c0, c1⟩ := (HA.out wr HB.out).item hp
      obtain ⟨x, hx'⟩ : ∃ x, xs[i] = x := ⟨_, rfl⟩
      obtain ⟨x1, x2⟩ := x
      have HX := Lib.hid hx'
      rw [hx'] at c0 c1
      have i2 : (i : Int) < (xs.length : Int) := by omega
      clear hx'
      go_wp2_with fail
      refine (toins_any x1 x2 _).mono ?_
      rintro e w2 ⟨rfl, hb2⟩
      have hl := copiedIc_len xs i (by omega)
      have HB2 := Lib.hid (HB.out.trans (hb2.mono HB.out.size))
      have HO2 := Lib.hid (HO.out.kept (only_of_below hb2 none) (by simp [Value.ownBlock]))
      obtain ⟨u0, d0⟩ : ∃ u, w2.cell? ⟨W.heap.size, i * 2, none⟩ = some u := ⟨_, (HO2.out.cellAt (i * 2) (by omega)).trans (cdv_get0 (by omega))⟩
      obtain ⟨u1, d1⟩ : ∃ u, w2.cell? ⟨W.heap.size, i * 2 + 1, none⟩ = some u := ⟨_, (HO2.out.cellAt (i * 2 + 1) (by omega)).trans (cdv_get1 (by omega))⟩
      have f0 := HO2.out.frozenAt (i * 2)
      have f1 := HO2.out.frozenAt (i * 2 + 1)
      have s1 := HO2.out.stored (i * 2) (.int .i64 x1)
      have s2 := s1.1.stored (i * 2 + 1) (.int .i64 x2)
      have hs := s2.1
      have hcs := copiedIc_set (xs := xs) hp
      rw [HX.out] at hcs
      rw [hcs] at hs
      have HS := Lib.hid hs
      have HG2 := Lib.hid (only_trans s1.2 s2.2)
      clear s1 s2 hs hl HO HB hb2 hcs HO2 c0 c1
      go_wp2_with fail
      go_roundw
      case rel => exact ⟨i + 1, by go_num, by omega, HS, Lib.hid (HB2.out.grown HG2.out HB2.out.size (fun k hk => by injection hk with hk; omega))⟩
      case measure => simp [intOf]; omega
    · obtain rfl : i = xs.length := by omega
      have h2 := HO.out
      rw [copiedIc_full] at h2
      have H2 := Lib.hid h2
      clear h2 HO
      go_wp2
      go_ret
      exact ⟨_, rfl, H2.out, HB.out⟩
end Go.Proofs.YthihfgjolioabaaDoor
