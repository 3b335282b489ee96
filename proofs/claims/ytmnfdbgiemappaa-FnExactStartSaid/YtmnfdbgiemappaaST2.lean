/-
  Lists of steps: whether two are alike, a copy of one, the marks that are laid into one, whether they lie there.
  A list of steps that comes in, opened.
  Lists of signed numbers (int32): a copy of one, whether two are alike, the marks that are laid into one, whether they lie there.
  Bytes, as numbers: whether two lists are alike, a copy of one, the marks that are laid into one, whether they lie there.
  A list whose block may hold other cells ahead of it: what is left of bytes when some have been read.
-/
import Derived.Test.YtmnfdbgiemappaaST1
import Derived.Handy
import Derived.Deep.RegionHeld3
import Derived.Deep.Slices
namespace Go.Proofs.Ytmnfdbgiemappaa
open Go.RowKit Go

/-- The cells of one step of a list, as the walk spells them. -/
theorem RdIc.item {w : World} {A : Option Addr} {n cap : Nat} {xs : List (Int × Int)} (h : RdIc w (.slice A n cap) xs) {i : Nat} (hi : i < xs.length) : ∃ a, A = some a ∧ a.block < w.heap.size ∧ w.cell? (a.add (i * 2)) = some (.int .i64 xs[i].1) ∧ w.cell? ⟨(a.add (i * 2)).block, (a.add (i * 2)).off + 1, none⟩ = some (.int .i64 xs[i].2) := by
  obtain ⟨A3, c4, hv4, -, hc4⟩ := h
  injection hv4 with e1 e2 e3
  subst e1 e3
  obtain ⟨a, rfl, hb, q0, q1⟩ := hc4 i hi
  exact ⟨a, rfl, hb, q0, q1⟩
theorem infoIc : (Try.prog.info? 60).map (fun i => (i.zero, i.size, i.bytes)) = some (some (.agg #[.int .i64 0, .int .i64 0]), 2, 16) := by kernel_rfl

set_option maxHeartbeats 1000000 in
theorem eqins_same (x y : Int) (w : World) : Calls Try.prog 37 #[.agg #[.int .i64 x, .int .i64 y], .agg #[.int .i64 x, .int .i64 y]] w fun e w' => e = .returned (.bool true) ∧ Below w.heap.size w w' := by
  have q0 : (x != x) = false := by simp
  have q1 : (y != y) = false := by simp
  go_enter Try.func37, Try.ntmps37
  go_wp2
  go_ret
  exact ⟨rfl, by go_grown⟩

set_option maxHeartbeats 4000000 in
theorem eqIc_same (a b : Value) (xs : List (Int × Int)) (w : World) (ha : RdIc w a xs) (hb : RdIc w b xs) :
    Calls Try.prog 11 #[a, b] w fun e w' => e = .returned (.bool true) ∧ Below w.heap.size w w' := by
  obtain ⟨A, ca, rfl⟩ := ha.form
  obtain ⟨B, cb, rfl⟩ := hb.form
  have HA := Lib.hid (fun W (h : Below w.heap.size w W) => ha.below h)
  have HB := Lib.hid (fun W (h : Below w.heap.size w W) => hb.below h)
  have hm : xs.length ≤ 4611686018427387904 := by
    obtain ⟨_, _, _, h, _⟩ := ha
    exact h
  clear ha hb
  have hl' : ((xs.length : Int) != (xs.length : Int)) = false := by simp
  go_enter Try.func11, Try.ntmps11
  go_wp2
  go_loopw [5] (fun vi wr => ∃ i : Nat, vi = .int .i64 i ∧ i ≤ xs.length ∧ Hid (Below w.heap.size w wr)) (fun vi _ => xs.length - (intOf vi).toNat)
  case atStart => exact ⟨0, rfl, by omega, Lib.hid (Below.refl _ _)⟩
  case round =>
    obtain ⟨i, rfl, hi, HW⟩ := hrel
    by_cases hp : i < xs.length
    · obtain ⟨a, rfl, la, p0, p1⟩ := (HA.out wr HW.out).item hp
      obtain ⟨b, rfl, lb, q0, q1⟩ := (HB.out wr HW.out).item hp
      obtain ⟨x, hx⟩ : ∃ x, xs[i] = x := ⟨_, rfl⟩
      obtain ⟨x1, x2⟩ := x
      rw [hx] at p0 p1 q0 q1
      have LA : Hid ((a.add (i * 2)).block < wr.heap.size) := Lib.hid (by rw [addr_addb]; exact la)
      have LB : Hid ((b.add (i * 2)).block < wr.heap.size) := Lib.hid (by rw [addr_addb]; exact lb)
      have i1 : (0 : Int) ≤ (i : Int) := by omega
      have i2 : (i : Int) < (xs.length : Int) := by omega
      clear hx la lb
      go_wp2_with fail
      go_region_held3 (fun w' => w'.cell? (a.add (i * 2)) = some (.int .i64 x1) ∧ w'.cell? ⟨(a.add (i * 2)).block, (a.add (i * 2)).off + 1, none⟩ = some (.int .i64 x2) ∧ w'.cell? (b.add (i * 2)) = some (.int .i64 x1) ∧ w'.cell? ⟨(b.add (i * 2)).block, (b.add (i * 2)).off + 1, none⟩ = some (.int .i64 x2)) (first | exact ⟨p0, p1, q0, q1⟩ | go_keep | exact ⟨(hbV.cell LA.out).trans p0, (hbV.cell (p := ⟨(a.add (i * 2)).block, (a.add (i * 2)).off + 1, none⟩) LA.out).trans p1, (hbV.cell LB.out).trans q0, (hbV.cell (p := ⟨(b.add (i * 2)).block, (b.add (i * 2)).off + 1, none⟩) LB.out).trans q1⟩) ((go_at_call 37; refine (eqins_same _ _ _).mono ?_; rintro e V ⟨rfl, hbV⟩))
      have HW2 := Lib.hid (HW.out.trans (((Below.refl wr.heap.size wr).drew.trans hbV).mono HW.out.size))
      clear hbV HW p0 p1 q0 q1
      go_wp2_with fail
      go_roundw
      case rel => exact ⟨i + 1, by go_num, by omega, HW2⟩
      case measure => simp [intOf]; omega
    · go_wp2
      go_ret
      exact ⟨rfl, HW.out⟩

theorem cdv_mid {xs : List (Int × Int)} {k i : Nat} (h : i < xs.length) : ((cdv (halfIc k i xs)).set (i * 2) (.int .i64 ((k : Int) + 2 * (i : Int)))).set (i * 2 + 1) (.int .i64 ((k : Int) + 2 * (i : Int) + 1)) = cdv (halfIc k (i + 1) xs) := by
  have hl := halfIc_len k i xs (by omega)
  rw [cdv_set (xs := halfIc k i xs) (by omega) ((k : Int) + 2 * (i : Int), (k : Int) + 2 * (i : Int) + 1), halfIc_set h]
set_option maxHeartbeats 4000000 in
theorem markIc_any (base : Nat) (v : Value) (xs : List (Int × Int)) (k : Nat) (h1 : k ≤ 8388608) (hx : xs.length ≤ 4194304) (W : World) (hown : W.ownsRow base 60 2 v xs.length (cdv xs)) :
    Calls Try.prog 13 #[v, .int .i64 k] W fun e w' => e = .returned (.int .i64 ((k : Int) + 2 * (xs.length : Int))) ∧ w'.ownsRow base 60 2 v xs.length (cdv (marksIc k xs.length)) ∧ W.grownBy w' v.ownBlock := by
  have hform := hown.2
  rcases hform with ⟨rfl, hn0⟩ | ⟨g, cap, cur, rfl, -⟩
  · have hxs : xs = [] := List.eq_nil_of_length_eq_zero hn0
    subst hxs
    clear hown
    go_enter Try.func13, Try.ntmps13
    go_wp2
    go_loop [1, 5] (fun vk vi => vk = .int .i64 k ∧ vi = .int .i64 0) (fun _ _ => 0)
    case atStart => exact ⟨rfl, rfl⟩
    case round =>
      obtain ⟨rfl, rfl⟩ := hrel
      go_wp2
      go_ret
      exact ⟨by simp, World.ownsRow_nil _ _ _ _, World.grownBy.refl _ _⟩
  · go_enter Try.func13, Try.ntmps13
    go_wp2
    go_loopw [1, 5] (fun vk vi wr => ∃ i : Nat, vi = .int .i64 i ∧ vk = .int .i64 ((k : Int) + 2 * (i : Int)) ∧ i ≤ xs.length ∧ Hid (wr.ownsRow base 60 2 (.slice (some ⟨g, 0, none⟩) xs.length cap) xs.length (cdv (halfIc k i xs))) ∧ Hid (W.grownBy wr (some g))) (fun _ vi _ => xs.length - (intOf vi).toNat)
    case atStart => exact ⟨0, rfl, by simp, by omega, Lib.hid (by simpa [halfIc, marksIc] using hown), Lib.hid (World.grownBy.refl _ _)⟩
    case round =>
      obtain ⟨i, rfl, rfl, hi, HO, HG⟩ := hrel
      clear hown
      by_cases hp : i < xs.length
      · have i1 : (i : Int) < (xs.length : Int) := by omega
        have hl := halfIc_len k i xs (by omega)
        obtain ⟨u0, c0⟩ : ∃ u, wr.cell? ⟨g, i * 2, none⟩ = some u := ⟨_, (HO.out.cellAt (i * 2) (by omega)).trans (cdv_get0 (by omega))⟩
        obtain ⟨u1, c1⟩ : ∃ u, wr.cell? ⟨g, i * 2 + 1, none⟩ = some u := ⟨_, (HO.out.cellAt (i * 2 + 1) (by omega)).trans (cdv_get1 (by omega))⟩
        have f0 := HO.out.frozenAt (i * 2)
        have f1 := HO.out.frozenAt (i * 2 + 1)
        have s1 := HO.out.stored (i * 2) (.int .i64 ((k : Int) + 2 * (i : Int)))
        have s2 := s1.1.stored (i * 2 + 1) (.int .i64 ((k : Int) + 2 * (i : Int) + 1))
        have hs := s2.1
        rw [cdv_mid hp] at hs
        have HS := Lib.hid hs
        have HG2 := Lib.hid (only_trans HG.out (only_trans s1.2 s2.2))
        clear s1 s2 hs hl HO HG
        go_wp2
        go_roundw
        case rel => exact ⟨i + 1, by go_num, by go_num, by omega, HS, HG2⟩
        case measure => simp [intOf]; omega
      · obtain rfl : i = xs.length := by omega
        go_wp2
        go_ret
        have h2 := HO.out
        simp only [halfIc, List.drop_length, List.append_nil] at h2
        exact ⟨rfl, h2, HG.out⟩

set_option maxHeartbeats 1000000 in
theorem toins_any (x y : Int) (w : World) : Calls Try.prog 26 #[.agg #[.int .i64 x, .int .i64 y]] w fun e w' => e = .returned (.agg #[.int .i64 x, .int .i64 y]) ∧ Below w.heap.size w w' := by
  go_enter Try.func26, Try.ntmps26
  go_wp2
  exact bodyPost_ret (v := .agg #[.int .i64 x, .int .i64 y]) (by simp [results, Try.results26, go_sem]) rfl ⟨rfl, by go_grown⟩

def copiedIc (xs : List (Int × Int)) (i : Nat) : List (Int × Int) := xs.take i ++ List.replicate (xs.length - i) (0, 0)
theorem copiedIc_len (xs : List (Int × Int)) (i : Nat) (h : i ≤ xs.length) : (copiedIc xs i).length = xs.length := by simp [copiedIc]; omega
theorem cdv_rep (n : Nat) : cdv (List.replicate n (0, 0)) = (List.replicate n [Value.int .i64 0, Value.int .i64 0]).flatten := by
  induction n with
  | zero => rfl
  | succ n ih => simp only [List.replicate_succ, cdv, ih, List.flatten_cons, List.cons_append, List.nil_append]
theorem copiedIc_zero (xs : List (Int × Int)) : cdv (copiedIc xs 0) = (List.replicate xs.length [Value.int .i64 0, Value.int .i64 0]).flatten := by simp [copiedIc, cdv_rep]
theorem copiedIc_full (xs : List (Int × Int)) : copiedIc xs xs.length = xs := by simp [copiedIc]
theorem copiedIc_set {xs : List (Int × Int)} {i : Nat} (h : i < xs.length) : ((cdv (copiedIc xs i)).set (i * 2) (.int .i64 xs[i].1)).set (i * 2 + 1) (.int .i64 xs[i].2) = cdv (copiedIc xs (i + 1)) := by
  rw [cdv_set (xs := copiedIc xs i) (by rw [copiedIc_len xs i (by omega)]; exact h)]
  congr 1
  unfold copiedIc
  obtain ⟨m, hm⟩ : ∃ m, xs.length - i = m + 1 := ⟨xs.length - i - 1, by omega⟩
  rw [hm, show xs.length - (i + 1) = m by omega, List.replicate_succ, List.set_append_right _ _ (by simp; omega)]
  have : i - (xs.take i).length = 0 := by simp; omega
  rw [this, List.set_cons_zero, List.take_succ_eq_append_getElem h, List.append_assoc]
  rfl
theorem made_cdv (n : Nat) : (madeCells #[Value.int .i64 0, Value.int .i64 0] (n * 2)).toList = cdv (List.replicate n (0, 0)) := by
  refine List.ext_getElem (by simp [madeCells, cdv_len]) fun i h1 h2 => ?_
  have h3 : i < n * 2 := by simpa [madeCells] using h1
  obtain ⟨j, hj⟩ : ∃ j, i = j * 2 ∨ i = j * 2 + 1 := ⟨i / 2, by omega⟩
  rcases hj with rfl | rfl
  · have := cdv_get0 (xs := List.replicate n (0, 0)) (i := j) (by simp; omega)
    rw [List.getElem?_eq_getElem h2] at this
    rw [Option.some.inj this]
    simp [madeCells]
  · have := cdv_get1 (xs := List.replicate n (0, 0)) (i := j) (by simp; omega)
    rw [List.getElem?_eq_getElem h2] at this
    rw [Option.some.inj this]
    have e : (j * 2 + 1) % 2 = 1 := by omega
    simp [madeCells, e]
set_option maxHeartbeats 4000000 in
theorem toIc_any (v : Value) (xs : List (Int × Int)) (hx : xs.length ≤ 4194304) (W : World) (ha : RdIc W v xs) : Calls Try.prog 7 #[v] W (NewIc W xs) := by
  obtain ⟨i0, hi, hz0, hz1, hz2⟩ := info_parts infoIc
  obtain ⟨A, ca, rfl⟩ := ha.form
  have HA := Lib.hid (fun w (h : Below W.heap.size W w) => ha.below h)
  clear ha
  go_enter Try.func7, Try.ntmps7
  go_wp2_with (refine wpList_make_full _ rfl _ _ _ rfl W.heap.size 60 i0 (.agg #[.int .i64 0, .int .i64 0]) 2 Try.underlying38 hi hz0 hz1 .i64 .i64 _ _ xs.length rfl rfl rfl rfl (by rw [hz2]; omega) (by unfold maxLen; omega) (Nat.le_refl _) ?_; intro w1 hown hgr)
  have hb1 : Below W.heap.size W w1 := (Below.refl _ _).grown hgr (Nat.le_refl _) (fun k hk => by cases hk)
  have hown1 : w1.ownsRow W.heap.size 60 2 (.slice (some ⟨W.heap.size, 0, none⟩) xs.length xs.length) xs.length (cdv (copiedIc xs 0)) := by
    have e : (madeCells (Value.agg #[Value.int .i64 0, Value.int .i64 0]).cells (xs.length * 2)).toList = cdv (copiedIc xs 0) := by
      have ec : copiedIc xs 0 = List.replicate xs.length (0, 0) := by simp [copiedIc]
      rw [ec]
      exact made_cdv _
    rw [e] at hown
    exact hown
  have HB1 := Lib.hid hb1
  have HOWN1 := Lib.hid hown1
  clear hown hgr hb1 hown1
  go_loopw [4] (fun vi wr => ∃ i : Nat, vi = .int .i64 i ∧ i ≤ xs.length ∧ Hid (wr.ownsRow W.heap.size 60 2 (.slice (some ⟨W.heap.size, 0, none⟩) xs.length xs.length) xs.length (cdv (copiedIc xs i))) ∧ Hid (Below W.heap.size W wr)) (fun vi _ => xs.length - (intOf vi).toNat)
  case atStart => exact ⟨0, rfl, by omega, HOWN1, HB1⟩
  case round =>
    clear HOWN1 HB1
    obtain ⟨i, rfl, hi2, HO, HB⟩ := hrel
    by_cases hp : i < xs.length
    · obtain ⟨ga, rfl, -, c0, c1⟩ := (HA.out wr HB.out).item hp
      obtain ⟨x, hx'⟩ : ∃ x, xs[i] = x := ⟨_, rfl⟩
      obtain ⟨x1, x2⟩ := x
      have HX := Lib.hid hx'
      rw [hx'] at c0 c1
      have i2 : (i : Int) < (xs.length : Int) := by omega
      clear hx'
      go_wp2_with fail
      refine (toins_any x1 x2 _).mono ?_
      rintro e w2 ⟨rfl, hb2⟩
      have hl := copiedIc_len xs i (by omega)
      have HB2 := Lib.hid (HB.out.trans (hb2.mono HB.out.size))
      have HO2 := Lib.hid (HO.out.kept (only_of_below hb2 none) (by simp [Value.ownBlock]))
      obtain ⟨u0, d0⟩ : ∃ u, w2.cell? ⟨W.heap.size, i * 2, none⟩ = some u := ⟨_, (HO2.out.cellAt (i * 2) (by omega)).trans (cdv_get0 (by omega))⟩
      obtain ⟨u1, d1⟩ : ∃ u, w2.cell? ⟨W.heap.size, i * 2 + 1, none⟩ = some u := ⟨_, (HO2.out.cellAt (i * 2 + 1) (by omega)).trans (cdv_get1 (by omega))⟩
      have f0 := HO2.out.frozenAt (i * 2)
      have f1 := HO2.out.frozenAt (i * 2 + 1)
      have s1 := HO2.out.stored (i * 2) (.int .i64 x1)
      have s2 := s1.1.stored (i * 2 + 1) (.int .i64 x2)
      have hs := s2.1
      have hcs := copiedIc_set (xs := xs) hp
      rw [HX.out] at hcs
      rw [hcs] at hs
      have HS := Lib.hid hs
      have HG2 := Lib.hid (only_trans s1.2 s2.2)
      clear s1 s2 hs hl HO HB hb2 hcs HO2 c0 c1
      go_wp2_with fail
      go_roundw
      case rel => exact ⟨i + 1, by go_num, by omega, HS, Lib.hid (HB2.out.grown HG2.out HB2.out.size (fun k hk => by injection hk with hk; omega))⟩
      case measure => simp [intOf]; omega
    · obtain rfl : i = xs.length := by omega
      have h2 := HO.out
      rw [copiedIc_full] at h2
      have H2 := Lib.hid h2
      clear h2 HO
      go_wp2
      go_ret
      exact ⟨_, rfl, H2.out, HB.out⟩
end Go.Proofs.Ytmnfdbgiemappaa

namespace Go.Proofs.Ytmnfdbgiemappaa
open Go.ChangeShapes Go.WideShapes Go.ChangeAt Go.RowKit Go

theorem lt_of_cell_i {w : World} {a : Addr} {v : Value} (h : w.cell? a = some v) : a.block < w.heap.size := by
  rcases Nat.lt_or_ge a.block w.heap.size with hl | hl
  · exact hl
  · have e : w.heap[a.block]? = none := Array.getElem?_eq_none hl
    simp [World.cell?, e] at h
theorem wf64i (n : Int) (h : (Lit.int .i64 n).wf = true) : -9223372036854775808 ≤ n ∧ n ≤ 9223372036854775807 := by
  simp [Lit.wf, IntKind.min, IntKind.max, IntKind.signed, IntKind.bits] at h
  omega
/-- A list of steps that comes in. -/
def InsIn (W : World) (A : Option Addr) (len c : Nat) : Prop :=
  len ≤ 9223372036854775807 ∧ (len ≤ 4611686018427387904 → ∃ xs : List (Int × Int), xs.length = len ∧ (∀ x ∈ xs, (-9223372036854775808 ≤ x.1 ∧ x.1 ≤ 9223372036854775807) ∧ (-9223372036854775808 ≤ x.2 ∧ x.2 ≤ 9223372036854775807)) ∧ RdIc W (.slice A len c) xs)
set_option maxRecDepth 100000 in
theorem ins_cell {H : Type} {enc : TypeId × Value → H} {W : World} {c0 : Value} {fuel : Nat} {x : DataW H × List MemPlace}
    (hf : DataW.trod enc Try.prog W 0 (fun _ => true) true fuel 22 [c0] = some x) : ∃ A len c, c0 = .slice A len c ∧ InsIn W A len c := by
  have kz : Try.prog.cellsOf 62 = 2 := by kernel_rfl
  have k1 : Try.prog.cellsOf 3 = 1 := by kernel_rfl
  have k2 : Try.prog.cellsOf 3 = 1 := by kernel_rfl
  rcases Go.Deep.open_slice Try.underlying22 hf with ⟨hcs, -⟩ | ⟨a, len, cap, m, n, D, Pl, hcs, -, hl, hm, hmm, -, hi⟩
  · obtain rfl : c0 = .slice none 0 0 := by simpa using hcs
    exact ⟨none, 0, 0, rfl, by omega, fun _ => ⟨[], rfl, fun x hx => by simp at hx, none, 0, rfl, by simp, fun i hi => by simp at hi⟩⟩
  · obtain rfl : c0 = .slice (some a) len cap := by simpa using hcs
    unfold maxLen at hm
    have hlm : len ≤ m := by rw [hmm]; split <;> omega
    have key : ∀ i, i < len → ∃ u z : Int, ((-9223372036854775808 ≤ u ∧ u ≤ 9223372036854775807) ∧ (-9223372036854775808 ≤ z ∧ z ≤ 9223372036854775807)) ∧ W.cell? (a.add (i * 2)) = some (.int .i64 u) ∧ W.cell? ((a.add (i * 2)).add 1) = some (.int .i64 z) := by
      intro i hil
      obtain ⟨cs', hcc, htr⟩ := hi i (by omega)
      rw [kz] at hcc
      obtain ⟨_, hcl, hat⟩ := World.cells?_some hcc
      obtain ⟨ys, n', _, _, _, hyl, hff⟩ := DataW.trod_struct Try.underlying62 htr
      match cs', hcl with
      | [y0, y1], _ =>
        have l2 : ys.length = 2 := hyl
        have f0 : DataW.trod enc Try.prog W 0 (fun _ => true) true n' 3 (([y0, y1].drop 0).take (Try.prog.cellsOf 3)) = some (ys[0]'(by omega)) := (hff 0 _ rfl).trans (List.getElem?_eq_getElem (show 0 < ys.length by omega))
        have f1 : DataW.trod enc Try.prog W 0 (fun _ => true) true n' 3 (([y0, y1].drop 1).take (Try.prog.cellsOf 3)) = some (ys[1]'(by omega)) := (hff 1 _ rfl).trans (List.getElem?_eq_getElem (show 1 < ys.length by omega))
        rw [k1] at f0
        rw [k2] at f1
        obtain ⟨u, hu, -, wu⟩ := DataW.trod_int Try.underlying3 f0
        obtain ⟨z, hz, -, wz⟩ := DataW.trod_int Try.underlying3 f1
        have hu' : y0 = .int .i64 u := by simpa using hu
        have hz' : y1 = .int .i64 z := by simpa using hz
        refine ⟨u, z, ⟨wf64i u wu, wf64i z wz⟩, ?_, ?_⟩
        · have := hat 0 (by omega)
          rw [show (a.add (i * 2)).add 0 = a.add (i * 2) by simp [Addr.add]] at this
          rw [this, hu']
          rfl
        · rw [hat 1 (by omega), hz']
          rfl
    refine ⟨some a, len, cap, rfl, by omega, fun h62 => ?_⟩
    obtain ⟨f, hfx⟩ : ∃ f : Nat → Int × Int, ∀ i, i < len → ((-9223372036854775808 ≤ (f i).1 ∧ (f i).1 ≤ 9223372036854775807) ∧ (-9223372036854775808 ≤ (f i).2 ∧ (f i).2 ≤ 9223372036854775807)) ∧ W.cell? (a.add (i * 2)) = some (.int .i64 (f i).1) ∧ W.cell? ((a.add (i * 2)).add 1) = some (.int .i64 (f i).2) := by
      refine ⟨fun i => if h : i < len then (Classical.choose (key i h), Classical.choose (Classical.choose_spec (key i h))) else (0, 0), fun i h => ?_⟩
      have hs := Classical.choose_spec (Classical.choose_spec (key i h))
      simp only [dif_pos h]
      exact hs
    refine ⟨(List.range len).map f, by simp, fun x hx => ?_, some a, cap, by simp, by simp; omega, fun i hi => ?_⟩
    · obtain ⟨i, hi, rfl⟩ := List.mem_map.1 hx
      exact (hfx i (List.mem_range.1 hi)).1
    · have hil : i < len := by simpa using hi
      have h3 := (hfx i hil).2
      refine ⟨a, rfl, ?_, by simpa using h3.1, by simpa using h3.2⟩
      have h1 := lt_of_cell_i h3.1
      rw [addr_addb] at h1
      exact h1
theorem ins_in {H : Type} {enc : TypeId × Value → H} {W : World} {A : Option Addr} {len cap : Nat} {d : DataW H} {p : List MemPlace}
    (h : DataW.Trod enc Try.prog W 0 (fun _ => true) true 22 (.slice A len cap) d p) : InsIn W A len cap := by
  obtain ⟨fuel, hf⟩ := h
  obtain ⟨A2, len2, c2, e2, hn⟩ := ins_cell (show DataW.trod enc Try.prog W 0 (fun _ => true) true fuel 22 [.slice A len cap] = some (d, p) from hf)
  injection e2 with h1 h2 h3
  subst h1 h2 h3
  exact hn
end Go.Proofs.Ytmnfdbgiemappaa

namespace Go.Proofs.Ytmnfdbgiemappaa
open Go.RowKit Go

def iv (n : Int) : Value := .int .i32 n
/-- A list of numbers that can be read. -/
def RdI (w : World) (v : Value) (xs : List Int) : Prop :=
  ∃ (A : Option Addr) (cap : Nat), v = .slice A xs.length cap ∧ xs.length ≤ 4611686018427387904 ∧ ∀ i (h : i < xs.length), ∃ a, A = some a ∧ a.block < w.heap.size ∧ w.cell? (a.add i) = some (iv xs[i])
theorem RdI.below {w w' : World} {v : Value} {xs : List Int} (h : RdI w v xs) (hb : Below w.heap.size w w') : RdI w' v xs := by
  obtain ⟨A, cap, rfl, hl, hc⟩ := h
  refine ⟨A, cap, rfl, hl, fun i hi => ?_⟩
  obtain ⟨a, rfl, e2, e3⟩ := hc i hi
  exact ⟨a, rfl, by have := hb.size; omega, (hb.cell (by rw [addr_addb]; exact e2)).trans e3⟩
theorem RdI.of_own {w : World} {base : Nat} {e : TypeId} {v : Value} {xs : List Int} (h : w.ownsRow base e 1 v xs.length (xs.map iv)) (hl : xs.length ≤ 4611686018427387904) : RdI w v xs := by
  rcases h.2 with ⟨rfl, h0⟩ | ⟨g, cap, cur, rfl, hb, hg, hn, hm, hsz, ht⟩
  · refine ⟨none, 0, by rw [h0], hl, fun i hi => by omega⟩
  · refine ⟨_, cap, rfl, hl, fun i hi => ⟨⟨g, 0, none⟩, rfl, (Array.getElem?_eq_some_iff.1 hg).1, ?_⟩⟩
    rw [addr_lit, Nat.zero_add, cell_of_row w g i cur e (0, 0) hg]
    have h1 := congrArg (·[i]?) ht
    simpa [List.getElem?_take, hi] using h1
theorem RdI.form {w : World} {v : Value} {xs : List Int} (h : RdI w v xs) : ∃ A cap, v = .slice A xs.length cap := by
  obtain ⟨A, cap, e, -⟩ := h
  exact ⟨A, cap, e⟩
/-- A new list of numbers. -/
def NewI (w : World) (xs : List Int) (e : Ending) (w' : World) : Prop := ∃ v, e = .returned v ∧ w'.ownsRow w.heap.size 21 1 v xs.length (xs.map iv) ∧ Below w.heap.size w w'

set_option maxHeartbeats 1000000 in
theorem eqI_same (a b : Value) (xs : List Int) (w : World) (ha : RdI w a xs) (hb : RdI w b xs) :
    Calls Try.prog 38 #[a, b] w fun e w' => e = .returned (.bool true) ∧ ∃ d, w' = w.drewN d := by
  obtain ⟨A, ca, rfl, hla, hca⟩ := ha
  obtain ⟨B, cb, rfl, hlb, hcb⟩ := hb
  have HA := Lib.hid hca
  have HB := Lib.hid hcb
  clear hca hcb
  have hl' : ((xs.length : Int) != (xs.length : Int)) = false := by simp
  go_enter Try.func38, Try.ntmps38
  go_wp2
  go_loopw [5] (fun vi wr => ∃ i d : Nat, vi = .int .i64 i ∧ i ≤ xs.length ∧ Hid (wr = w.drewN d)) (fun vi _ => xs.length - (intOf vi).toNat)
  case atStart => exact ⟨0, 0, rfl, by omega, by rw [World.drewN_zero]; rfl⟩
  case round =>
    obtain ⟨i, d, rfl, hi, HW⟩ := hrel
    by_cases hp : i < xs.length
    · obtain ⟨ga, rfl, -, ha⟩ := HA.out i hp
      obtain ⟨gb, rfl, -, hb⟩ := HB.out i hp
      obtain ⟨x, hx⟩ : ∃ x, xs[i] = x := ⟨_, rfl⟩
      rw [hx] at ha hb
      have hcA : wr.cell? (ga.add i) = some (.int .i32 x) := by rw [HW.out]; exact ha
      have hcB : wr.cell? (gb.add i) = some (.int .i32 x) := by rw [HW.out]; exact hb
      have i1 : (0 : Int) ≤ (i : Int) := by omega
      have i2 : (i : Int) < (xs.length : Int) := by omega
      have hxx : (x != x) = false := by simp
      clear ha hb hx
      go_wp2
      go_quiet (fail)
      go_wp2
      go_roundw
      case rel => exact ⟨i + 1, _, by go_num, by omega, by rw [HW.out, World.drewN_drewN]; rfl⟩
      case measure => simp [intOf]; omega
    · go_wp2
      go_ret
      exact ⟨rfl, d, HW.out⟩

/-- n marks, from k on. -/
def marksI (k n : Nat) : List Int := (List.range n).map fun j => ((k + j : Nat) : Int)
theorem marksI_len (k n : Nat) : (marksI k n).length = n := by simp [marksI]
theorem marksI_succ (k i : Nat) : marksI k (i + 1) = marksI k i ++ [((k + i : Nat) : Int)] := by unfold marksI; rw [List.range_succ]; simp
theorem marksI_set {xs : List Int} {k i : Nat} (h : i < xs.length) : ((marksI k i ++ xs.drop i).map iv).set i (.int .i32 ((k : Int) + (i : Int))) = (marksI k (i + 1) ++ xs.drop (i + 1)).map iv := by
  have e : Value.int .i32 ((k : Int) + (i : Int)) = iv ((k + i : Nat) : Int) := by unfold iv; push_cast; rfl
  rw [e, marksI_succ, List.map_append, List.map_append, List.set_append_right _ _ (by simp [marksI_len]), List.length_map, marksI_len, Nat.sub_self, List.drop_eq_getElem_cons h, List.map_cons, List.set_cons_zero]
  simp
/-- Where marking stands: block g holds i marks, then what it held. -/
structure MarkedI (W wr : World) (g : Nat) (n : Nat) (xs : List Int) (k i : Nat) (cap : Nat) (cur : Array Value) : Prop where
  blk : Blk wr g 21 cur
  size : cur.size = cap
  take : cur.toList.take n = (marksI k i ++ xs.drop i).map iv
  grown : W.grownBy wr (some g)
theorem MarkedI.step {W wr : World} {g : Nat} {xs : List Int} {k i cap : Nat} {cur : Array Value} (h : MarkedI W wr g xs.length xs k i cap cur) (hi : i < xs.length) :
    MarkedI W (wr.setCell ⟨g, i, none⟩ (.int .i32 ((k : Int) + (i : Int)))) g xs.length xs k (i + 1) cap (cur.setIfInBounds i (.int .i32 ((k : Int) + (i : Int)))) := by
  refine ⟨h.blk.put _ _, by simpa using h.size, ?_, only_setCell h.grown (.inl rfl) _⟩
  rw [Array.toList_setIfInBounds, List.take_set, h.take, marksI_set hi]
theorem MarkedI.cell {W wr : World} {g n : Nat} {xs : List Int} {k i cap : Nat} {cur : Array Value} (h : MarkedI W wr g n xs k i cap cur) (hi : i < cap) : ∃ u, wr.cell? ⟨g, i, none⟩ = some u ∧ wr.frozen? ⟨g, i, none⟩ = false := by
  have hs := h.size
  exact ⟨cur[i]'(by omega), by rw [h.blk.cell, Array.getElem?_eq_getElem (by omega)], h.blk.frozen i⟩

set_option maxHeartbeats 1000000 in
theorem markI_any (base : Nat) (v : Value) (xs : List Int) (k : Nat) (h1 : k ≤ 8388608) (hx : xs.length ≤ 4194304) (W : World) (hown : W.ownsRow base 21 1 v xs.length (xs.map iv)) :
    Calls Try.prog 43 #[v, .int .i64 k] W fun e w' => e = .returned (.int .i64 ((k : Int) + xs.length)) ∧ w'.ownsRow base 21 1 v xs.length ((marksI k xs.length).map iv) ∧ W.grownBy w' v.ownBlock := by
  rcases hown.2 with ⟨rfl, hn0⟩ | ⟨g, cap, cur, rfl, hb, hg, hn, hm, hsz, ht⟩
  · have hxs : xs = [] := List.eq_nil_of_length_eq_zero hn0
    subst hxs
    clear hown
    go_enter Try.func43, Try.ntmps43
    go_wp2
    go_loop [1, 5] (fun vk vi => vk = .int .i64 k ∧ vi = .int .i64 0) (fun _ _ => 0)
    case atStart => exact ⟨rfl, rfl⟩
    case round =>
      obtain ⟨rfl, rfl⟩ := hrel
      go_wp2
      go_ret
      exact ⟨by simp, World.ownsRow_nil _ _ _ _, World.grownBy.refl _ _⟩
  · have hstart : MarkedI W W g xs.length xs k 0 cap cur := ⟨hg, by simpa using hsz, by simpa [marksI] using ht, World.grownBy.refl _ _⟩
    clear hown hsz ht hg
    unfold maxLen at hm
    go_enter Try.func43, Try.ntmps43
    go_wp2
    go_loopw [1, 5] (fun vk vi wr => ∃ (i : Nat) (cur : Array Value), vi = .int .i64 i ∧ vk = .int .i64 ((k + i : Nat) : Int) ∧ i ≤ xs.length ∧ MarkedI W wr g xs.length xs k i cap cur) (fun _ vi _ => xs.length - (intOf vi).toNat)
    case atStart => exact ⟨0, cur, rfl, rfl, by omega, hstart⟩
    case round =>
      obtain ⟨i, cur2, rfl, rfl, hi, hM⟩ := hrel
      clear hstart
      by_cases hp : i < xs.length
      · have i1 : (i : Int) < (xs.length : Int) := by omega
        obtain ⟨u, hcu, hfu⟩ := hM.cell (show i < cap by omega)
        go_wp2
        go_roundw
        case rel => exact ⟨i + 1, _, by go_num, by go_num, by omega, hM.step hp⟩
        case measure => simp [intOf]; omega
      · obtain rfl : i = xs.length := by omega
        go_wp2
        go_ret
        refine ⟨by simp, ⟨by simp [marksI_len], .inr ⟨g, cap, cur2, rfl, hb, hM.blk, hn, by unfold maxLen; omega, by simpa using hM.size, ?_⟩⟩, hM.grown⟩
        have := hM.take
        simpa using this

theorem marksI_get (k n i : Nat) (h : i < (marksI k n).length) : (marksI k n)[i] = (k : Int) + (i : Int) := by simp [marksI]
set_option maxHeartbeats 1000000 in
theorem heldI_any (v : Value) (k n : Nat) (h1 : k ≤ 8388608) (hx : n ≤ 4194304) (w : World) (ha : RdI w v (marksI k n)) :
    Calls Try.prog 59 #[v, .int .i64 k] w fun e w' => e = .returned (.int .i64 ((k : Int) + n)) ∧ w = w' := by
  obtain ⟨A, ca, rfl, hla, hca⟩ := ha
  rw [marksI_len]
  have HA : Hid (∀ i, i < n → ∃ a, A = some a ∧ w.cell? (a.add i) = some (.int .i32 ((k : Int) + (i : Int)))) := Lib.hid fun i hi => by
    obtain ⟨a, h1, -, h3⟩ := hca i (by rw [marksI_len]; exact hi)
    refine ⟨a, h1, ?_⟩
    rw [h3, marksI_get]
    rfl
  clear hca hla
  go_enter Try.func59, Try.ntmps59
  go_wp2
  go_loop [1, 5] (fun vk vi => ∃ i : Nat, vi = .int .i64 i ∧ vk = .int .i64 ((k : Int) + (i : Int)) ∧ i ≤ n) (fun _ vi => n - (intOf vi).toNat)
  case atStart => exact ⟨0, rfl, by simp, by omega⟩
  case round =>
    obtain ⟨i, rfl, rfl, hi⟩ := hrel
    by_cases hp : i < n
    · have i2 : (i : Int) < (n : Int) := by omega
      obtain ⟨a, rfl, hc⟩ := HA.out i hp
      go_wp2
      go_round
      case rel => exact ⟨i + 1, by go_num, by go_num, by omega⟩
      case measure => simp [intOf]; omega
    · obtain rfl : i = n := by omega
      go_wp2
      go_ret
      exact ⟨rfl, rfl⟩

theorem infoI : (Try.prog.info? 21).map (fun i => (i.zero, i.size, i.bytes)) = some (some (.int .i32 0), 1, 4) := by kernel_rfl
def copiedI (xs : List Int) (i : Nat) : List Int := xs.take i ++ List.replicate (xs.length - i) 0
theorem copiedI_len (xs : List Int) (i : Nat) (h : i ≤ xs.length) : (copiedI xs i).length = xs.length := by simp [copiedI]; omega
theorem copiedI_zero (xs : List Int) : (copiedI xs 0).map iv = List.replicate xs.length (.int .i32 0) := by simp [copiedI, iv]
theorem copiedI_full (xs : List Int) : copiedI xs xs.length = xs := by simp [copiedI]
theorem copiedI_set {xs : List Int} {i : Nat} (h : i < xs.length) : ((copiedI xs i).map iv).set i (.int .i32 xs[i]) = (copiedI xs (i + 1)).map iv := by
  have e : Value.int .i32 xs[i] = iv xs[i] := rfl
  rw [e, List.map_set.symm]
  congr 1
  unfold copiedI
  obtain ⟨m, hm⟩ : ∃ m, xs.length - i = m + 1 := ⟨xs.length - i - 1, by omega⟩
  rw [hm, show xs.length - (i + 1) = m by omega, List.replicate_succ, List.set_append_right _ _ (by simp; omega)]
  have : i - (xs.take i).length = 0 := by simp; omega
  rw [this, List.set_cons_zero, List.take_succ_eq_append_getElem h, List.append_assoc]
  rfl

set_option maxHeartbeats 1000000 in
theorem toI_any (v : Value) (xs : List Int) (hx : xs.length ≤ 4194304) (W : World) (ha : RdI W v xs) : Calls Try.prog 27 #[v] W (NewI W xs) := by
  obtain ⟨i0, hi, hz0, hz1, hz2⟩ := info_parts infoI
  obtain ⟨A, ca, rfl, hla, hca⟩ := ha
  have HA := Lib.hid hca
  clear hca hla
  go_enter Try.func27, Try.ntmps27
  go_wp2_with (refine wpList_make_full _ rfl _ _ _ rfl W.heap.size 21 i0 (.int .i32 0) 1 Try.underlying23 hi hz0 hz1 .i64 .i64 _ _ xs.length rfl rfl rfl rfl (by rw [hz2]; omega) (by unfold maxLen; omega) (Nat.le_refl _) ?_; intro w1 hown hgr)
  have hb1 : Below W.heap.size W w1 := (Below.refl _ _).grown hgr (Nat.le_refl _) (fun k hk => by cases hk)
  have hown1 : w1.ownsRow W.heap.size 21 1 (.slice (some ⟨W.heap.size, 0, none⟩) xs.length xs.length) xs.length ((copiedI xs 0).map iv) := by
    rw [copiedI_zero]
    rw [show (madeCells (Value.int .i32 0).cells (xs.length * 1)).toList = List.replicate xs.length (.int .i32 0) by rw [Nat.mul_one]; exact toList_madeCells_one _ _] at hown
    exact hown
  clear hown hgr
  go_loopw [4] (fun vi wr => ∃ i : Nat, vi = .int .i64 i ∧ i ≤ xs.length ∧ wr.ownsRow W.heap.size 21 1 (.slice (some ⟨W.heap.size, 0, none⟩) xs.length xs.length) xs.length ((copiedI xs i).map iv) ∧ Below W.heap.size W wr) (fun vi _ => xs.length - (intOf vi).toNat)
  case atStart => exact ⟨0, rfl, by omega, hown1, hb1⟩
  case round =>
    clear hown1 hb1
    obtain ⟨i, rfl, hi, hO, hB⟩ := hrel
    by_cases hp : i < xs.length
    · obtain ⟨ga, rfl, hgl, ha⟩ := HA.out i hp
      have hc : wr.cell? (ga.add i) = some (.int .i32 xs[i]) := (hB.cell (by rw [addr_addb]; exact hgl)).trans ha
      have i2 : (i : Int) < (xs.length : Int) := by omega
      have hd : wr.cell? ⟨W.heap.size, i, none⟩ = some (iv ((copiedI xs i)[i]'(by rw [copiedI_len xs i hi]; exact hp))) := by
        rw [hO.cellAt i (by omega)]
        simp [copiedI_len xs i hi, hp]
      have hf := hO.frozenAt i
      have hs := hO.stored i (.int .i32 xs[i])
      rw [copiedI_set hp] at hs
      have HS := Lib.hid hs
      have HB := Lib.hid hB
      clear ha hgl hs hO hB
      go_wp2
      go_roundw
      case rel => exact ⟨i + 1, by go_num, by omega, HS.out.1, HB.out.grown HS.out.2 HB.out.size (fun k hk => by injection hk with hk; omega)⟩
      case measure => simp [intOf]; omega
    · obtain rfl : i = xs.length := by omega
      rw [copiedI_full] at hO
      go_wp2
      go_ret
      exact ⟨_, rfl, hO, hB⟩
end Go.Proofs.Ytmnfdbgiemappaa

namespace Go.Proofs.Ytmnfdbgiemappaa
open Go.RowKit Go

def b8v (n : Nat) : Value := .int .u8 (n : Int)
/-- Bytes that can be read, as numbers. -/
def RdM (w : World) (v : Value) (xs : List Nat) : Prop :=
  ∃ (A : Option Addr) (cap : Nat), v = .slice A xs.length cap ∧ xs.length ≤ 4611686018427387904 ∧ ∀ i (h : i < xs.length), ∃ a, A = some a ∧ a.block < w.heap.size ∧ w.cell? (a.add i) = some (b8v xs[i])
theorem RdM.keep {w w' : World} {v : Value} {xs : List Nat} (h : RdM w v xs) (hs : w.heap.size ≤ w'.heap.size) (hk : ∀ p : Addr, p.block < w.heap.size → (∃ a, v = .slice (some a) xs.length (match v with | .slice _ _ c => c | _ => 0) ∧ p.block = a.block) → w'.cell? p = w.cell? p) : RdM w' v xs := by
  obtain ⟨A, cap, rfl, hl, hc⟩ := h
  refine ⟨A, cap, rfl, hl, fun i hi => ?_⟩
  obtain ⟨a, rfl, e2, e3⟩ := hc i hi
  exact ⟨a, rfl, by omega, (hk _ (by rw [addr_addb]; exact e2) ⟨a, rfl, addr_addb _ _⟩).trans e3⟩
theorem RdM.below {w w' : World} {v : Value} {xs : List Nat} (h : RdM w v xs) (hb : Below w.heap.size w w') : RdM w' v xs := h.keep hb.size fun _ hp _ => hb.cell hp
theorem RdM.of_own {w : World} {base : Nat} {e : TypeId} {v : Value} {xs : List Nat} (h : w.ownsRow base e 1 v xs.length (xs.map b8v)) (hl : xs.length ≤ 4611686018427387904) : RdM w v xs := by
  rcases h.2 with ⟨rfl, h0⟩ | ⟨g, cap, cur, rfl, hb, hg, hn, hm, hsz, ht⟩
  · refine ⟨none, 0, by rw [h0], hl, fun i hi => by omega⟩
  · refine ⟨_, cap, rfl, hl, fun i hi => ⟨⟨g, 0, none⟩, rfl, (Array.getElem?_eq_some_iff.1 hg).1, ?_⟩⟩
    rw [addr_lit, Nat.zero_add, cell_of_row w g i cur e (0, 0) hg]
    have h1 := congrArg (·[i]?) ht
    simpa [List.getElem?_take, hi] using h1
/-- New bytes. -/
def NewM (w : World) (xs : List Nat) (e : Ending) (w' : World) : Prop := ∃ v, e = .returned v ∧ w'.ownsRow w.heap.size 5 1 v xs.length (xs.map b8v) ∧ Below w.heap.size w w'
set_option maxHeartbeats 1000000 in
theorem eqb_any (a b : Value) (xs ys : List Nat) (w : World) (ha : RdM w a xs) (hb : RdM w b ys) :
    Calls Try.prog 42 #[a, b] w fun e w' => e = .returned (.bool (decide (xs = ys))) ∧ ∃ d, w' = w.drewN d := by
  obtain ⟨A, ca, rfl, hla, hca⟩ := ha
  obtain ⟨B, cb, rfl, hlb, hcb⟩ := hb
  have HA := Lib.hid hca
  have HB := Lib.hid hcb
  clear hca hcb
  by_cases hl : xs.length = ys.length
  · have hl' : ((xs.length : Int) != (ys.length : Int)) = false := by simp [hl]
    have HL := Lib.hid hl
    clear hl
    go_enter Try.func42, Try.ntmps42
    go_wp2
    go_loopw [5] (fun vi wr => ∃ i d : Nat, vi = .int .i64 i ∧ i ≤ xs.length ∧ Hid (wr = w.drewN d) ∧ Hid (∀ j (h : j < xs.length), j < i → ys[j]? = some xs[j])) (fun vi _ => xs.length - (intOf vi).toNat)
    case atStart => exact ⟨0, 0, rfl, by omega, by rw [World.drewN_zero]; rfl, fun j _ h => by omega⟩
    case round =>
      obtain ⟨i, d, rfl, hi, HW, HE⟩ := hrel
      by_cases hp : i < xs.length
      · obtain ⟨ga, rfl, -, ha⟩ := HA.out i hp
        obtain ⟨gb, rfl, -, hb⟩ := HB.out i (by have := HL.out; omega)
        have hcA : wr.cell? (ga.add i) = some (.int .u8 (xs[i] : Int)) := by rw [HW.out]; exact ha
        have hcB : wr.cell? (gb.add i) = some (.int .u8 ((ys[i]'(by have := HL.out; omega) : Nat) : Int)) := by rw [HW.out]; exact hb
        have i1 : (0 : Int) ≤ (i : Int) := by omega
        have i2 : (i : Int) < (xs.length : Int) := by omega
        have i3 : (i : Int) < (ys.length : Int) := by have := HL.out; omega
        clear ha hb
        by_cases he : xs[i] = ys[i]'(by have := HL.out; omega)
        · have HE2 : Hid (∀ j (h : j < xs.length), j < i + 1 → ys[j]? = some xs[j]) := Lib.hid fun j hj h2 => by
            rcases Nat.lt_or_ge j i with h3 | h3
            · exact HE.out j hj h3
            · obtain rfl : j = i := by omega
              rw [List.getElem?_eq_getElem (by omega), he]
          rw [← he] at hcB
          clear he
          go_wp2
          go_quiet (fail)
          go_wp2
          go_roundw
          case rel => exact ⟨i + 1, _, by go_num, by omega, by rw [HW.out, World.drewN_drewN]; rfl, HE2.out⟩
          case measure => simp [intOf]; omega
        · have hne := u32_bne he
          have hd : decide (xs = ys) = false := decide_eq_false fun e => he (by simp [e])
          have HD := Lib.hid hd
          clear he hd
          go_wp2
          go_quiet (fail)
          go_wp2
          go_ret
          exact ⟨by rw [HD.out]; rfl, _, by rw [HW.out, World.drewN_drewN]⟩
      · have hd : decide (xs = ys) = true := decide_eq_true (List.ext_getElem HL.out fun j h1 h2 => by
          have := HE.out j h1 (by omega)
          rw [List.getElem?_eq_getElem h2] at this
          exact (Option.some.inj this).symm)
        have HD := Lib.hid hd
        clear hd
        go_wp2
        go_ret
        exact ⟨by rw [HD.out]; rfl, d, HW.out⟩
  · have hl' : ((xs.length : Int) != (ys.length : Int)) = true := by simp; omega
    have e : decide (xs = ys) = false := by simpa using fun e => hl (by rw [e])
    rw [e]
    clear hl e
    go_enter Try.func42, Try.ntmps42
    go_wp2
    go_ret
    exact ⟨rfl, 0, by rw [World.drewN_zero]⟩

/-- n marks, from k on. -/
def marksB (k n : Nat) : List Nat := (List.range n).map fun j => (k + j) % 256
theorem marksB_len (k n : Nat) : (marksB k n).length = n := by simp [marksB]
theorem marksB_succ (k i : Nat) : marksB k (i + 1) = marksB k i ++ [(k + i) % 256] := by unfold marksB; rw [List.range_succ, List.map_append, List.map_cons, List.map_nil]
theorem marksB_set {xs : List Nat} {k i : Nat} (h : i < xs.length) : ((marksB k i ++ xs.drop i).map b8v).set i (.int .u8 (((k : Int) + (i : Int)) % 256)) = (marksB k (i + 1) ++ xs.drop (i + 1)).map b8v := by
  have e : Value.int .u8 (((k : Int) + (i : Int)) % 256) = b8v ((k + i) % 256) := congrArg (Value.int .u8) (by omega)
  rw [e, marksB_succ, List.map_append, List.map_append, List.set_append_right _ _ (by simp [marksB_len]), List.length_map, marksB_len, Nat.sub_self, List.drop_eq_getElem_cons h, List.map_cons, List.set_cons_zero]
  simp
/-- Where marking stands: block g holds i marks, then what it held. -/
structure MarkedB (W wr : World) (g : Nat) (n : Nat) (xs : List Nat) (k i : Nat) (cap : Nat) (cur : Array Value) : Prop where
  blk : Blk wr g 5 cur
  size : cur.size = cap
  take : cur.toList.take n = (marksB k i ++ xs.drop i).map b8v
  grown : W.grownBy wr (some g)
theorem MarkedB.step {W wr : World} {g : Nat} {xs : List Nat} {k i cap : Nat} {cur : Array Value} (h : MarkedB W wr g xs.length xs k i cap cur) (hi : i < xs.length) :
    MarkedB W (wr.setCell ⟨g, i, none⟩ (.int .u8 (((k : Int) + (i : Int)) % 256))) g xs.length xs k (i + 1) cap (cur.setIfInBounds i (.int .u8 (((k : Int) + (i : Int)) % 256))) := by
  refine ⟨h.blk.put _ _, by simpa using h.size, ?_, only_setCell h.grown (.inl rfl) _⟩
  rw [Array.toList_setIfInBounds, List.take_set, h.take, marksB_set hi]
theorem MarkedB.cell {W wr : World} {g n : Nat} {xs : List Nat} {k i cap : Nat} {cur : Array Value} (h : MarkedB W wr g n xs k i cap cur) (hi : i < cap) : ∃ u, wr.cell? ⟨g, i, none⟩ = some u ∧ wr.frozen? ⟨g, i, none⟩ = false := by
  have hs := h.size
  exact ⟨cur[i]'(by omega), by rw [h.blk.cell, Array.getElem?_eq_getElem (by omega)], h.blk.frozen i⟩

set_option maxHeartbeats 1000000 in
theorem markb_any (base : Nat) (v : Value) (xs : List Nat) (k : Nat) (h1 : k ≤ 4194304) (hx : xs.length ≤ 4194304) (W : World) (hown : W.ownsRow base 5 1 v xs.length (xs.map b8v)) :
    Calls Try.prog 47 #[v, .int .i64 k] W fun e w' => e = .returned (.int .i64 ((k : Int) + xs.length)) ∧ w'.ownsRow base 5 1 v xs.length ((marksB k xs.length).map b8v) ∧ W.grownBy w' v.ownBlock := by
  rcases hown.2 with ⟨rfl, hn0⟩ | ⟨g, cap, cur, rfl, hb, hg, hn, hm, hsz, ht⟩
  · have hxs : xs = [] := List.eq_nil_of_length_eq_zero hn0
    subst hxs
    clear hown
    go_enter Try.func47, Try.ntmps47
    go_wp2
    go_loop [1, 5] (fun vk vi => vk = .int .i64 k ∧ vi = .int .i64 0) (fun _ _ => 0)
    case atStart => exact ⟨rfl, rfl⟩
    case round =>
      obtain ⟨rfl, rfl⟩ := hrel
      go_wp2
      go_ret
      exact ⟨by simp, World.ownsRow_nil _ _ _ _, World.grownBy.refl _ _⟩
  · have hstart : MarkedB W W g xs.length xs k 0 cap cur := ⟨hg, by simpa using hsz, by simpa [marksB] using ht, World.grownBy.refl _ _⟩
    clear hown hsz ht hg
    unfold maxLen at hm
    go_enter Try.func47, Try.ntmps47
    go_wp2
    go_loopw [1, 5] (fun vk vi wr => ∃ (i : Nat) (cur : Array Value), vi = .int .i64 i ∧ vk = .int .i64 ((k + i : Nat) : Int) ∧ i ≤ xs.length ∧ MarkedB W wr g xs.length xs k i cap cur) (fun _ vi _ => xs.length - (intOf vi).toNat)
    case atStart => exact ⟨0, cur, rfl, rfl, by omega, hstart⟩
    case round =>
      obtain ⟨i, cur2, rfl, rfl, hi, hM⟩ := hrel
      clear hstart
      by_cases hp : i < xs.length
      · have i1 : (i : Int) < (xs.length : Int) := by omega
        obtain ⟨u, hcu, hfu⟩ := hM.cell (show i < cap by omega)
        go_wp2
        go_roundw
        case rel => exact ⟨i + 1, _, by go_num, by go_num, by omega, hM.step hp⟩
        case measure => simp [intOf]; omega
      · obtain rfl : i = xs.length := by omega
        go_wp2
        go_ret
        refine ⟨by simp, ⟨by simp [marksB_len], .inr ⟨g, cap, cur2, rfl, hb, hM.blk, hn, by unfold maxLen; omega, by simpa using hM.size, ?_⟩⟩, hM.grown⟩
        have := hM.take
        simpa using this

theorem infoB8 : (Try.prog.info? 5).map (fun i => (i.zero, i.size, i.bytes)) = some (some (.int .u8 0), 1, 1) := by kernel_rfl
def copiedB (xs : List Nat) (i : Nat) : List Nat := xs.take i ++ List.replicate (xs.length - i) 0
theorem copiedB_len (xs : List Nat) (i : Nat) (h : i ≤ xs.length) : (copiedB xs i).length = xs.length := by simp [copiedB]; omega
theorem copiedB_zero (xs : List Nat) : (copiedB xs 0).map b8v = List.replicate xs.length (.int .u8 0) := by simp [copiedB, b8v]
theorem copiedB_full (xs : List Nat) : copiedB xs xs.length = xs := by simp [copiedB]
theorem copiedB_set {xs : List Nat} {i : Nat} (h : i < xs.length) : ((copiedB xs i).map b8v).set i (.int .u8 (xs[i] : Int)) = (copiedB xs (i + 1)).map b8v := by
  have e : Value.int .u8 (xs[i] : Int) = b8v xs[i] := rfl
  rw [e, List.map_set.symm]
  congr 1
  unfold copiedB
  obtain ⟨m, hm⟩ : ∃ m, xs.length - i = m + 1 := ⟨xs.length - i - 1, by omega⟩
  rw [hm, show xs.length - (i + 1) = m by omega, List.replicate_succ, List.set_append_right _ _ (by simp; omega)]
  have : i - (xs.take i).length = 0 := by simp; omega
  rw [this, List.set_cons_zero, List.take_succ_eq_append_getElem h, List.append_assoc]
  rfl

set_option maxHeartbeats 1000000 in
theorem tob_any (v : Value) (xs : List Nat) (hx : xs.length ≤ 4194304) (W : World) (ha : RdM W v xs) : Calls Try.prog 31 #[v] W (NewM W xs) := by
  obtain ⟨i0, hi, hz0, hz1, hz2⟩ := info_parts infoB8
  obtain ⟨A, ca, rfl, hla, hca⟩ := ha
  have HA := Lib.hid hca
  clear hca hla
  go_enter Try.func31, Try.ntmps31
  go_wp2_with (refine wpList_make_full _ rfl _ _ _ rfl W.heap.size 5 i0 (.int .u8 0) 1 Try.underlying27 hi hz0 hz1 .i64 .i64 _ _ xs.length rfl rfl rfl rfl (by rw [hz2]; omega) (by unfold maxLen; omega) (Nat.le_refl _) ?_; intro w1 hown hgr)
  have hb1 : Below W.heap.size W w1 := (Below.refl _ _).grown hgr (Nat.le_refl _) (fun k hk => by cases hk)
  have hown1 : w1.ownsRow W.heap.size 5 1 (.slice (some ⟨W.heap.size, 0, none⟩) xs.length xs.length) xs.length ((copiedB xs 0).map b8v) := by
    rw [copiedB_zero]
    rw [show (madeCells (Value.int .u8 0).cells (xs.length * 1)).toList = List.replicate xs.length (.int .u8 0) by rw [Nat.mul_one]; exact toList_madeCells_one _ _] at hown
    exact hown
  clear hown hgr
  go_loopw [4] (fun vi wr => ∃ i : Nat, vi = .int .i64 i ∧ i ≤ xs.length ∧ wr.ownsRow W.heap.size 5 1 (.slice (some ⟨W.heap.size, 0, none⟩) xs.length xs.length) xs.length ((copiedB xs i).map b8v) ∧ Below W.heap.size W wr) (fun vi _ => xs.length - (intOf vi).toNat)
  case atStart => exact ⟨0, rfl, by omega, hown1, hb1⟩
  case round =>
    clear hown1 hb1
    obtain ⟨i, rfl, hi, hO, hB⟩ := hrel
    by_cases hp : i < xs.length
    · obtain ⟨ga, rfl, hgl, ha⟩ := HA.out i hp
      have hc : wr.cell? (ga.add i) = some (.int .u8 (xs[i] : Int)) := (hB.cell (by rw [addr_addb]; exact hgl)).trans ha
      have i2 : (i : Int) < (xs.length : Int) := by omega
      have hd : wr.cell? ⟨W.heap.size, i, none⟩ = some (b8v ((copiedB xs i)[i]'(by rw [copiedB_len xs i hi]; exact hp))) := by
        rw [hO.cellAt i (by omega)]
        simp [copiedB_len xs i hi, hp]
      have hf := hO.frozenAt i
      have hs := hO.stored i (.int .u8 (xs[i] : Int))
      rw [copiedB_set hp] at hs
      have HS := Lib.hid hs
      have HB := Lib.hid hB
      clear ha hgl hs hO hB
      go_wp2
      go_roundw
      case rel => exact ⟨i + 1, by go_num, by omega, HS.out.1, HB.out.grown HS.out.2 HB.out.size (fun k hk => by injection hk with hk; omega)⟩
      case measure => simp [intOf]; omega
    · obtain rfl : i = xs.length := by omega
      rw [copiedB_full] at hO
      go_wp2
      go_ret
      exact ⟨_, rfl, hO, hB⟩
theorem rd_own8 {w : World} {base : Nat} {e : TypeId} {v : Value} {n : Nat} {ls : List Nat} (h : w.ownsRow base e 1 v n (ls.map b8v)) (hl : n ≤ 4611686018427387904) : RdM w v ls := by
  have hn : ls.length = n := by have := h.1; simpa using this
  subst hn
  exact RdM.of_own h hl
theorem RdM.form {w : World} {v : Value} {xs : List Nat} (h : RdM w v xs) : ∃ A cap, v = .slice A xs.length cap := by
  obtain ⟨A, cap, e, -⟩ := h
  exact ⟨A, cap, e⟩
theorem RdM.small {w : World} {v : Value} {xs : List Nat} (h : RdM w v xs) : xs.length ≤ 4611686018427387904 := by
  obtain ⟨_, _, _, hl, _⟩ := h
  exact hl
theorem eqb_same (a b : Value) (xs : List Nat) (w : World) (ha : RdM w a xs) (hb : RdM w b xs) : Calls Try.prog 42 #[a, b] w fun e w' => e = .returned (.bool true) ∧ Below w.heap.size w w' := by
  have h := eqb_any a b xs xs w ha hb
  rw [decide_eq_true rfl] at h
  exact h.mono fun e w' ⟨h1, d, h2⟩ => ⟨h1, by rw [h2]; exact below_drewN (Below.refl _ _) d⟩
theorem markb1 (base : Nat) (v : Value) (xs : List Nat) (hx : xs.length ≤ 4194304) (W : World) (hown : W.ownsRow base 5 1 v xs.length (xs.map b8v)) :
    Calls Try.prog 47 #[v, .int .i64 1] W fun e w' => e = .returned (.int .i64 (1 + (xs.length : Int))) ∧ w'.ownsRow base 5 1 v xs.length ((marksB 1 xs.length).map b8v) ∧ W.grownBy w' v.ownBlock := markb_any base v xs 1 (by omega) hx W hown
set_option maxHeartbeats 1000000 in
theorem heldb1 (v : Value) (n : Nat) (hx : n ≤ 4194304) (w : World) (ha : RdM w v (marksB 1 n)) :
    Calls Try.prog 63 #[v, .int .i64 1] w fun e w' => e = .returned (.int .i64 (1 + (n : Int))) ∧ Below w.heap.size w w' := by
  obtain ⟨A, ca, rfl, hla, hca⟩ := ha
  rw [marksB_len]
  have HA : Hid (∀ i, i < n → ∃ a, A = some a ∧ w.cell? (a.add i) = some (.int .u8 ((1 + (i : Int)) % 256))) := Lib.hid fun i hi => by
    obtain ⟨a, h1, -, h3⟩ := hca i (by rw [marksB_len]; exact hi)
    refine ⟨a, h1, ?_⟩
    rw [h3]
    simp [b8v, marksB]
  clear hca hla
  go_enter Try.func63, Try.ntmps63
  go_wp2
  go_loop [1, 5] (fun vk vi => ∃ i : Nat, vi = .int .i64 i ∧ vk = .int .i64 (1 + (i : Int)) ∧ i ≤ n) (fun _ vi => n - (intOf vi).toNat)
  case atStart => exact ⟨0, rfl, rfl, by omega⟩
  case round =>
    obtain ⟨i, rfl, rfl, hi⟩ := hrel
    by_cases hp : i < n
    · have i2 : (i : Int) < (n : Int) := by omega
      obtain ⟨a, rfl, hc⟩ := HA.out i hp
      go_wp2
      go_round
      case rel => exact ⟨i + 1, by go_num, by go_num, by omega⟩
      case measure => simp [intOf]; omega
    · obtain rfl : i = n := by omega
      go_wp2
      go_ret
      exact ⟨rfl, Below.refl _ _⟩
end Go.Proofs.Ytmnfdbgiemappaa

namespace Go.Proofs.Ytmnfdbgiemappaa
open Go.RowKit Go

/-- A row of elements of one cell, which may begin behind others in its block. -/
def TailB (w : World) (base : Nat) (e : TypeId) (v : Value) (n : Nat) (xs : List Value) : Prop :=
  xs.length = n ∧ ((v = .slice none 0 0 ∧ n = 0) ∨ ∃ g s cap cur, v = .slice (some ⟨g, s, none⟩) n cap ∧ base ≤ g ∧ w.heap[g]? = some (.cells cur e (0, 0)) ∧ n ≤ cap ∧ cap ≤ maxLen ∧ s + n ≤ cur.size ∧ (cur.toList.drop s).take n = xs)
section
variable {w w' : World} {base : Nat} {e : TypeId} {v : Value} {n : Nat} {xs : List Value}
theorem TailB.of_own (h : w.ownsRow base e 1 v n xs) : TailB w base e v n xs := by
  have hl := h.1
  refine ⟨by omega, ?_⟩
  rcases h.2 with h0 | ⟨g, cap, cur, rfl, h1, h2, h3, h4, h5, h6⟩
  · exact .inl h0
  · exact .inr ⟨g, 0, cap, cur, rfl, h1, h2, h3, h4, by omega, by rw [List.drop_zero]; rw [Nat.mul_one] at h6; exact h6⟩
theorem TailB.lt (h : TailB w base e v n xs) : ∀ k, v.ownBlock = some k → base ≤ k ∧ k < w.heap.size := by
  intro k hk
  rcases h.2 with ⟨rfl, _⟩ | ⟨g, s, cap, cur, rfl, hb, hg, _⟩
  · simp [Value.ownBlock] at hk
  · simp [Value.ownBlock] at hk
    subst hk
    exact ⟨hb, (Array.getElem?_eq_some_iff.1 hg).1⟩
theorem tail_lt (h : TailB w base e v n xs) : ∀ k, v.ownBlock = some k → base ≤ k := fun k hk => (h.lt k hk).1
theorem tail_same (h : TailB w base e v n xs) (hb : ∀ k, v.ownBlock = some k → w'.heap[k]? = w.heap[k]?) : TailB w' base e v n xs := by
  refine ⟨h.1, ?_⟩
  rcases h.2 with h0 | ⟨g, s, cap, cur, rfl, h1, h2, h3⟩
  · exact .inl h0
  · exact .inr ⟨g, s, cap, cur, rfl, h1, (hb g rfl).trans h2, h3⟩
theorem TailB.kept {row : Option Nat} (h : TailB w base e v n xs) (hg : w.grownBy w' row) (hne : v.ownBlock = none ∨ v.ownBlock ≠ row) : TailB w' base e v n xs :=
  tail_same h fun k hk => hg.block k (h.lt k hk).2 (by
    rcases hne with h1 | h1
    · rw [h1] at hk; cases hk
    · rw [hk] at h1; exact h1)
theorem TailB.alloc (h : TailB w base e v n xs) (o : Obj) : TailB (w.alloc o) base e v n xs :=
  h.kept (World.grownBy_alloc w o none) (by cases hv : v.ownBlock <;> simp)
theorem TailB.mono {base' : Nat} (h : TailB w base e v n xs) (hb : base' ≤ base) : TailB w base' e v n xs := by
  refine ⟨h.1, ?_⟩
  rcases h.2 with h0 | ⟨g, s, cap, cur, rfl, h1, h3⟩
  · exact .inl h0
  · exact .inr ⟨g, s, cap, cur, rfl, Nat.le_trans hb h1, h3⟩
/-- A tail and a row of unlike elements lie apart. -/
theorem tail_ne {b2 s2 n2 : Nat} {e2 : TypeId} {u : Value} {ys : List Value} (h1 : TailB w base e v n xs) (h2 : w.ownsRow b2 e2 s2 u n2 ys) (he : e ≠ e2) : v.ownBlock = none ∨ v.ownBlock ≠ u.ownBlock := by
  rcases h1.2 with ⟨rfl, -⟩ | ⟨g, s, cap, cur, rfl, -, hg, -⟩
  · exact .inl rfl
  · rcases h2.2 with ⟨rfl, -⟩ | ⟨q, cap2, cur2, rfl, -, hq, -⟩
    · exact .inr (by simp [Value.ownBlock])
    · refine .inr fun e => ?_
      have e : g = q := by simpa [Value.ownBlock] using e
      subst e
      rw [hg] at hq
      injection hq with h1
      injection h1 with _ h2
      exact he h2
theorem ne_tail {b2 s2 n2 : Nat} {e2 : TypeId} {u : Value} {ys : List Value} (h2 : w.ownsRow b2 e2 s2 u n2 ys) (h1 : TailB w base e v n xs) (he : e2 ≠ e) : u.ownBlock = none ∨ u.ownBlock ≠ v.ownBlock := by
  rcases tail_ne h1 h2 (fun h => he h.symm) with h | h
  · cases hq : u.ownBlock with
    | none => exact .inl rfl
    | some k => exact .inr (by rw [h]; simp)
  · exact .inr fun e => h e.symm
theorem box_neT {g : Nat} {t : TypeId} {cs : Array Value} (hk : Blk w g t cs) (ho : TailB w base e v n xs) (ht : t ≠ e) : some g ≠ v.ownBlock := by
  rcases ho.2 with ⟨rfl, -⟩ | ⟨q, s, cap, cur, rfl, -, hq, -⟩
  · simp [Value.ownBlock]
  · intro h
    have h : g = q := by simpa [Value.ownBlock] using h
    subst h
    unfold Blk at hk
    rw [hk] at hq
    injection hq with h1
    injection h1 with _ h2
    exact ht h2
theorem tail_form (h : TailB w base e v n xs) : ∃ A cap, v = .slice A n cap := by
  rcases h.2 with ⟨rfl, h0⟩ | ⟨g, s, cap, cur, rfl, -⟩
  · exact ⟨none, 0, by rw [h0]⟩
  · exact ⟨_, _, rfl⟩
/-- The first k are left behind: as a slice of it, from k on, is told. -/
theorem TailB.drop {A : Option Addr} {cap : Nat} (h : TailB w base e (.slice A n cap) n xs) (k : Nat) (hk : k ≤ n) : TailB w base e (.slice (if cap = k then A else A.map (·.add k)) (n - k) (cap - k)) (n - k) (xs.drop k) := by
  have hl := h.1
  refine ⟨by rw [List.length_drop]; omega, ?_⟩
  rcases h.2 with ⟨e1, h0⟩ | ⟨g, s, cp, cur, e1, hb, hg, hn, hm, hs, ht⟩
  · injection e1 with e1 e2 e3
    subst e1 e3 h0
    obtain rfl : k = 0 := by omega
    exact .inl ⟨by simp, rfl⟩
  · injection e1 with e1 e2 e3
    subst e1 e3
    by_cases hc : cap = k
    · rw [if_pos hc]
      refine .inr ⟨g, s, cap - k, cur, rfl, hb, hg, by omega, by omega, by omega, ?_⟩
      rw [show n - k = 0 by omega, List.take_zero, List.drop_of_length_le (by omega)]
    · rw [if_neg hc]
      refine .inr ⟨g, s + k, cap - k, cur, by rw [Option.map_some, addr_lit], hb, hg, by omega, by omega, by omega, ?_⟩
      rw [← ht, List.drop_take, List.drop_drop]
end
theorem RdM.of_tail {w : World} {base : Nat} {e : TypeId} {v : Value} {xs : List Nat} (h : TailB w base e v xs.length (xs.map b8v)) (hl : xs.length ≤ 4611686018427387904) : RdM w v xs := by
  rcases h.2 with ⟨rfl, h0⟩ | ⟨g, s, cap, cur, rfl, hb, hg, hn, hm, hsz, ht⟩
  · refine ⟨none, 0, by rw [h0], hl, fun i hi => by omega⟩
  · refine ⟨_, cap, rfl, hl, fun i hi => ⟨⟨g, s, none⟩, rfl, (Array.getElem?_eq_some_iff.1 hg).1, ?_⟩⟩
    rw [addr_lit, cell_of_row w g (s + i) cur e (0, 0) hg]
    have h1 := congrArg (·[i]?) ht
    simpa [List.getElem?_take, hi] using h1
/-- Where marking of a tail stands. -/
structure MarkedT (W wr : World) (g s : Nat) (n : Nat) (xs : List Nat) (k i : Nat) (cur : Array Value) : Prop where
  blk : Blk wr g 5 cur
  size : s + n ≤ cur.size
  take : (cur.toList.drop s).take n = (marksB k i ++ xs.drop i).map b8v
  grown : W.grownBy wr (some g)
theorem MarkedT.step {W wr : World} {g s : Nat} {xs : List Nat} {k i : Nat} {cur : Array Value} (h : MarkedT W wr g s xs.length xs k i cur) (hi : i < xs.length) :
    MarkedT W (wr.setCell ⟨g, s + i, none⟩ (.int .u8 (((k : Int) + (i : Int)) % 256))) g s xs.length xs k (i + 1) (cur.setIfInBounds (s + i) (.int .u8 (((k : Int) + (i : Int)) % 256))) := by
  refine ⟨h.blk.put _ _, by simpa using h.size, ?_, only_setCell h.grown (.inl rfl) _⟩
  rw [Array.toList_setIfInBounds, List.drop_set, if_neg (by omega), Nat.add_sub_cancel_left, List.take_set, h.take, marksB_set hi]
theorem MarkedT.cell {W wr : World} {g s n : Nat} {xs : List Nat} {k i : Nat} {cur : Array Value} (h : MarkedT W wr g s n xs k i cur) (hi : i < n) : ∃ u, wr.cell? ⟨g, s + i, none⟩ = some u ∧ wr.frozen? ⟨g, s + i, none⟩ = false := by
  have hs := h.size
  exact ⟨cur[s + i]'(by omega), by rw [h.blk.cell, Array.getElem?_eq_getElem (by omega)], h.blk.frozen (s + i)⟩
set_option maxHeartbeats 1000000 in
theorem marktail_any (base : Nat) (v : Value) (xs : List Nat) (k : Nat) (h1 : k ≤ 4194304) (hx : xs.length ≤ 4194304) (W : World) (hown : TailB W base 5 v xs.length (xs.map b8v)) :
    Calls Try.prog 47 #[v, .int .i64 k] W fun e w' => e = .returned (.int .i64 ((k : Int) + xs.length)) ∧ TailB w' base 5 v xs.length ((marksB k xs.length).map b8v) ∧ W.grownBy w' v.ownBlock := by
  rcases hown.2 with ⟨rfl, hn0⟩ | ⟨g, s, cap, cur, rfl, hb, hg, hn, hm, hsz, ht⟩
  · have hxs : xs = [] := List.eq_nil_of_length_eq_zero hn0
    subst hxs
    clear hown
    go_enter Try.func47, Try.ntmps47
    go_wp2
    go_loop [1, 5] (fun vk vi => vk = .int .i64 k ∧ vi = .int .i64 0) (fun _ _ => 0)
    case atStart => exact ⟨rfl, rfl⟩
    case round =>
      obtain ⟨rfl, rfl⟩ := hrel
      go_wp2
      go_ret
      exact ⟨by simp, ⟨rfl, .inl ⟨rfl, rfl⟩⟩, World.grownBy.refl _ _⟩
  · have hstart : MarkedT W W g s xs.length xs k 0 cur := ⟨hg, hsz, by simpa [marksB] using ht, World.grownBy.refl _ _⟩
    have HM := Lib.hid hm
    clear hown hsz ht hg hm
    go_enter Try.func47, Try.ntmps47
    go_wp2
    go_loopw [1, 5] (fun vk vi wr => ∃ (i : Nat) (cur : Array Value), vi = .int .i64 i ∧ vk = .int .i64 ((k + i : Nat) : Int) ∧ i ≤ xs.length ∧ MarkedT W wr g s xs.length xs k i cur) (fun _ vi _ => xs.length - (intOf vi).toNat)
    case atStart => exact ⟨0, cur, rfl, rfl, by omega, hstart⟩
    case round =>
      obtain ⟨i, cur2, rfl, rfl, hi, hM⟩ := hrel
      clear hstart
      by_cases hp : i < xs.length
      · have i1 : (i : Int) < (xs.length : Int) := by omega
        obtain ⟨u, hcu, hfu⟩ := hM.cell hp
        go_wp2
        go_roundw
        case rel => exact ⟨i + 1, _, by go_num, by go_num, by omega, hM.step hp⟩
        case measure => simp [intOf]; omega
      · obtain rfl : i = xs.length := by omega
        go_wp2
        go_ret
        refine ⟨by simp, ⟨by simp [marksB_len], .inr ⟨g, s, cap, cur2, rfl, hb, hM.blk, hn, HM.out, hM.size, ?_⟩⟩, hM.grown⟩
        have := hM.take
        simpa using this
theorem mktB (base : Nat) (v : Value) (xs : List Nat) (z : Int) (k : Nat) (hz : z = (k : Int)) (h1 : k ≤ 4194304) (hx : xs.length ≤ 4194304) (W : World) (hown : TailB W base 5 v xs.length ((xs).map b8v)) :
    Calls Try.prog 47 #[v, .int .i64 z] W fun e w' => e = .returned (.int .i64 (z + (xs.length : Int))) ∧ TailB w' base 5 v xs.length ((marksB k xs.length).map b8v) ∧ W.grownBy w' v.ownBlock := by
  subst hz
  exact marktail_any base v xs k h1 hx W hown
end Go.Proofs.Ytmnfdbgiemappaa
