/-
  Lists of slots (a kind and a number each): a copy of one, whether two are alike, the marks that are laid into one, whether they lie there.
  Lists of slots: whether two are alike, a copy of one, the marks that are laid into one, whether they lie there.
  The sum of cells and the bytes of a store, as plain functions: a sum tells any one cell; bytes that are turned in one place are those of no store.
  Blocks of a store, as plain functions: a block of it, the store with another block.
  Plain mathematics of decimal texts, no program: how the digits of a number are gathered from the last one on.
  The machine's state as plain lists; when one is right; what a built-in word makes of one.
  The machine's state in memory, as one bundle of seven lists and three numbers: what can be read, what is owned, what is kept.
-/
import Derived.Test.YtmnfdbgiemappaaST2
import Derived.Test.YtmnfdbgiemappaaST1
import Derived.Handy
import Derived.Deep.RegionHeld3
import Derived.Lib.ItoaNum
import Derived.Lib.ItoaLen
namespace Go.Proofs.Ytmnfdbgiemappaa
open Go.RowKit Go

abbrev slV (s : Int × Int) : Value := .agg #[.int .i64 s.1, .int .i32 s.2]
def slv : List (Int × Int) → List Value
  | [] => []
  | s :: r => .int .i64 s.1 :: .int .i32 s.2 :: slv r
theorem slv_len (xs : List (Int × Int)) : (slv xs).length = xs.length * 2 := by
  induction xs with
  | nil => rfl
  | cons s r ih => simp only [slv, List.length_cons, ih]; omega
theorem slv_app (xs ys : List (Int × Int)) : slv (xs ++ ys) = slv xs ++ slv ys := by
  induction xs with
  | nil => rfl
  | cons s r ih => simp only [slv, List.cons_append, ih]
theorem slv_get0 {xs : List (Int × Int)} {i : Nat} (h : i < xs.length) : (slv xs)[i * 2]? = some (.int .i64 xs[i].1) := by
  induction xs generalizing i with
  | nil => simp at h
  | cons s r ih =>
    cases i with
    | zero => simp [slv]
    | succ i =>
      have := ih (i := i) (by simpa using h)
      rw [show (i + 1) * 2 = i * 2 + 2 by omega]
      simpa [slv] using this
theorem slv_get1 {xs : List (Int × Int)} {i : Nat} (h : i < xs.length) : (slv xs)[i * 2 + 1]? = some (.int .i32 xs[i].2) := by
  induction xs generalizing i with
  | nil => simp at h
  | cons s r ih =>
    cases i with
    | zero => simp [slv]
    | succ i =>
      have := ih (i := i) (by simpa using h)
      rw [show (i + 1) * 2 + 1 = i * 2 + 1 + 2 by omega]
      simpa [slv] using this
theorem slv_set0 {xs : List (Int × Int)} {i : Nat} (h : i < xs.length) (m : Int) : (slv xs).set (i * 2) (.int .i64 m) = slv (xs.set i (m, xs[i].2)) := by
  induction xs generalizing i with
  | nil => simp at h
  | cons s r ih =>
    cases i with
    | zero => simp [slv]
    | succ i =>
      have := ih (i := i) (by simpa using h)
      rw [show (i + 1) * 2 = i * 2 + 2 by omega]
      simpa [slv] using this
theorem slv_set1 {xs : List (Int × Int)} {i : Nat} (h : i < xs.length) (m : Int) : (slv xs).set (i * 2 + 1) (.int .i32 m) = slv (xs.set i (xs[i].1, m)) := by
  induction xs generalizing i with
  | nil => simp at h
  | cons s r ih =>
    cases i with
    | zero => simp [slv]
    | succ i =>
      have := ih (i := i) (by simpa using h)
      rw [show (i + 1) * 2 + 1 = i * 2 + 1 + 2 by omega]
      simpa [slv] using this
theorem slv_set {xs : List (Int × Int)} {i : Nat} (h : i < xs.length) (s : Int × Int) : ((slv xs).set (i * 2) (.int .i64 s.1)).set (i * 2 + 1) (.int .i32 s.2) = slv (xs.set i s) := by
  rw [slv_set0 h, slv_set1 (by simpa using h)]
  simp
theorem slv_one : ∀ {xs : List (Int × Int)}, ∀ u ∈ slv xs, u.oneCell' = true := by
  intro xs
  induction xs with
  | nil => intro u hu; cases hu
  | cons s r ih =>
    intro u hu
    simp only [slv, List.mem_cons] at hu
    rcases hu with rfl | rfl | hu
    · rfl
    · rfl
    · exact ih u hu
/-- A list of slots that can be read. -/
def RdS (w : World) (v : Value) (xs : List (Int × Int)) : Prop :=
  ∃ (A : Option Addr) (cap : Nat), v = .slice A xs.length cap ∧ xs.length ≤ 4611686018427387904 ∧ ∀ i (h : i < xs.length), ∃ a, A = some a ∧ a.block < w.heap.size ∧ w.cell? (a.add (i * 2)) = some (.int .i64 xs[i].1) ∧ w.cell? ((a.add (i * 2)).add 1) = some (.int .i32 xs[i].2)
theorem RdS.below {w w' : World} {v : Value} {xs : List (Int × Int)} (h : RdS w v xs) (hb : Below w.heap.size w w') : RdS w' v xs := by
  obtain ⟨A, cap, rfl, hl, hc⟩ := h
  refine ⟨A, cap, rfl, hl, fun i hi => ?_⟩
  obtain ⟨a, rfl, e2, e3, e4⟩ := hc i hi
  exact ⟨a, rfl, by have := hb.size; omega, (hb.cell (by rw [addr_addb]; exact e2)).trans e3, (hb.cell (by rw [addr_addb, addr_addb]; exact e2)).trans e4⟩
theorem RdS.of_own {w : World} {base : Nat} {e : TypeId} {v : Value} {xs : List (Int × Int)} (h : w.ownsRow base e 2 v xs.length (slv xs)) (hl : xs.length ≤ 4611686018427387904) : RdS w v xs := by
  rcases h.2 with ⟨rfl, h0⟩ | ⟨g, cap, cur, rfl, hb, hg, hn, hm, hsz, ht⟩
  · refine ⟨none, 0, by rw [h0], hl, fun i hi => by omega⟩
  · refine ⟨_, cap, rfl, hl, fun i hi => ⟨⟨g, 0, none⟩, rfl, (Array.getElem?_eq_some_iff.1 hg).1, ?_, ?_⟩⟩
    · rw [addr_lit, Nat.zero_add, cell_of_row w g (i * 2) cur e (0, 0) hg]
      have h1 := congrArg (·[i * 2]?) ht
      simp only [slv_get0 hi, List.getElem?_take] at h1
      rw [if_pos (by omega)] at h1
      simpa using h1
    · rw [addr_lit, Nat.zero_add, addr_lit, cell_of_row w g (i * 2 + 1) cur e (0, 0) hg]
      have h1 := congrArg (·[i * 2 + 1]?) ht
      simp only [slv_get1 hi, List.getElem?_take] at h1
      rw [if_pos (by omega)] at h1
      simpa using h1
theorem RdS.form {w : World} {v : Value} {xs : List (Int × Int)} (h : RdS w v xs) : ∃ A cap, v = .slice A xs.length cap := by
  obtain ⟨A, cap, e, -⟩ := h
  exact ⟨A, cap, e⟩
/-- A new list of slots. -/
def NewS (w : World) (xs : List (Int × Int)) (e : Ending) (w' : World) : Prop := ∃ v, e = .returned v ∧ w'.ownsRow w.heap.size 58 2 v xs.length (slv xs) ∧ Below w.heap.size w w'
/-- n marks, from k on. -/
def marksS (k n : Nat) : List (Int × Int) := (List.range n).map fun (j : Nat) => (((k + 2 * j : Nat) : Int), ((k + 2 * j + 1 : Nat) : Int))
theorem marksS_len (k n : Nat) : (marksS k n).length = n := by simp [marksS]
theorem marksS_succ (k i : Nat) : marksS k (i + 1) = marksS k i ++ [(((k + 2 * i : Nat) : Int), ((k + 2 * i + 1 : Nat) : Int))] := by unfold marksS; rw [List.range_succ, List.map_append, List.map_cons, List.map_nil]
theorem marksS_get (k n i : Nat) (h : i < (marksS k n).length) : (marksS k n)[i] = ((k : Int) + 2 * (i : Int), (k : Int) + 2 * (i : Int) + 1) := by simp [marksS]
def halfS (k i : Nat) (xs : List (Int × Int)) : List (Int × Int) := marksS k i ++ xs.drop i
theorem halfS_len (k i : Nat) (xs : List (Int × Int)) (h : i ≤ xs.length) : (halfS k i xs).length = xs.length := by simp [halfS, marksS_len]; omega
theorem halfS_set {xs : List (Int × Int)} {k i : Nat} (h : i < xs.length) : (halfS k i xs).set i ((k : Int) + 2 * (i : Int), (k : Int) + 2 * (i : Int) + 1) = halfS k (i + 1) xs := by
  unfold halfS
  rw [marksS_succ, List.set_append_right _ _ (by simp [marksS_len]), marksS_len, Nat.sub_self, List.drop_eq_getElem_cons h, List.set_cons_zero]
  simp

end Go.Proofs.Ytmnfdbgiemappaa

namespace Go.Proofs.Ytmnfdbgiemappaa
open Go.RowKit Go

/-- The cells of one slot of a list, as the walk spells them. -/
theorem RdS.item {w : World} {A : Option Addr} {n cap : Nat} {xs : List (Int × Int)} (h : RdS w (.slice A n cap) xs) {i : Nat} (hi : i < xs.length) : ∃ a, A = some a ∧ a.block < w.heap.size ∧ w.cell? (a.add (i * 2)) = some (.int .i64 xs[i].1) ∧ w.cell? ⟨(a.add (i * 2)).block, (a.add (i * 2)).off + 1, none⟩ = some (.int .i32 xs[i].2) := by
  obtain ⟨A3, c4, hv4, -, hc4⟩ := h
  injection hv4 with e1 e2 e3
  subst e1 e3
  obtain ⟨a, rfl, hb, q0, q1⟩ := hc4 i hi
  exact ⟨a, rfl, hb, q0, q1⟩
theorem infoS : (Try.prog.info? 58).map (fun i => (i.zero, i.size, i.bytes)) = some (some (.agg #[.int .i64 0, .int .i32 0]), 2, 16) := by kernel_rfl

set_option maxHeartbeats 1000000 in
theorem eqslot_same (x y : Int) (w : World) : Calls Try.prog 58 #[.agg #[.int .i64 x, .int .i32 y], .agg #[.int .i64 x, .int .i32 y]] w fun e w' => e = .returned (.bool true) ∧ Below w.heap.size w w' := by
  have q0 : (x != x) = false := by simp
  have q1 : (y != y) = false := by simp
  go_enter Try.func58, Try.ntmps58
  go_wp2
  go_ret
  exact ⟨rfl, by go_grown⟩

set_option maxHeartbeats 4000000 in
theorem eqS_same (a b : Value) (xs : List (Int × Int)) (w : World) (ha : RdS w a xs) (hb : RdS w b xs) :
    Calls Try.prog 39 #[a, b] w fun e w' => e = .returned (.bool true) ∧ Below w.heap.size w w' := by
  obtain ⟨A, ca, rfl⟩ := ha.form
  obtain ⟨B, cb, rfl⟩ := hb.form
  have HA := Lib.hid (fun W (h : Below w.heap.size w W) => ha.below h)
  have HB := Lib.hid (fun W (h : Below w.heap.size w W) => hb.below h)
  have hm : xs.length ≤ 4611686018427387904 := by
    obtain ⟨_, _, _, h, _⟩ := ha
    exact h
  clear ha hb
  have hl' : ((xs.length : Int) != (xs.length : Int)) = false := by simp
  go_enter Try.func39, Try.ntmps39
  go_wp2
  go_loopw [5] (fun vi wr => ∃ i : Nat, vi = .int .i64 i ∧ i ≤ xs.length ∧ Hid (Below w.heap.size w wr)) (fun vi _ => xs.length - (intOf vi).toNat)
  case atStart => exact ⟨0, rfl, by omega, Lib.hid (Below.refl _ _)⟩
  case round =>
    obtain ⟨i, rfl, hi, HW⟩ := hrel
    by_cases hp : i < xs.length
    · obtain ⟨a, rfl, la, p0, p1⟩ := (HA.out wr HW.out).item hp
      obtain ⟨b, rfl, lb, q0, q1⟩ := (HB.out wr HW.out).item hp
      obtain ⟨x, hx⟩ : ∃ x, xs[i] = x := ⟨_, rfl⟩
      obtain ⟨x1, x2⟩ := x
      rw [hx] at p0 p1 q0 q1
      have LA : Hid ((a.add (i * 2)).block < wr.heap.size) := Lib.hid (by rw [addr_addb]; exact la)
      have LB : Hid ((b.add (i * 2)).block < wr.heap.size) := Lib.hid (by rw [addr_addb]; exact lb)
      have i1 : (0 : Int) ≤ (i : Int) := by omega
      have i2 : (i : Int) < (xs.length : Int) := by omega
      clear hx la lb
      go_wp2_with fail
      go_region_held3 (fun w' => w'.cell? (a.add (i * 2)) = some (.int .i64 x1) ∧ w'.cell? ⟨(a.add (i * 2)).block, (a.add (i * 2)).off + 1, none⟩ = some (.int .i32 x2) ∧ w'.cell? (b.add (i * 2)) = some (.int .i64 x1) ∧ w'.cell? ⟨(b.add (i * 2)).block, (b.add (i * 2)).off + 1, none⟩ = some (.int .i32 x2)) (first | exact ⟨p0, p1, q0, q1⟩ | go_keep | exact ⟨(hbV.cell LA.out).trans p0, (hbV.cell (p := ⟨(a.add (i * 2)).block, (a.add (i * 2)).off + 1, none⟩) LA.out).trans p1, (hbV.cell LB.out).trans q0, (hbV.cell (p := ⟨(b.add (i * 2)).block, (b.add (i * 2)).off + 1, none⟩) LB.out).trans q1⟩) ((go_at_call 58; refine (eqslot_same _ _ _).mono ?_; rintro e V ⟨rfl, hbV⟩))
      have HW2 := Lib.hid (HW.out.trans (((Below.refl wr.heap.size wr).drew.trans hbV).mono HW.out.size))
      clear hbV HW p0 p1 q0 q1
      go_wp2_with fail
      go_roundw
      case rel => exact ⟨i + 1, by go_num, by omega, HW2⟩
      case measure => simp [intOf]; omega
    · go_wp2
      go_ret
      exact ⟨rfl, HW.out⟩

theorem slv_mid {xs : List (Int × Int)} {k i : Nat} (h : i < xs.length) : ((slv (halfS k i xs)).set (i * 2) (.int .i64 ((k : Int) + 2 * (i : Int)))).set (i * 2 + 1) (.int .i32 ((k : Int) + 2 * (i : Int) + 1)) = slv (halfS k (i + 1) xs) := by
  have hl := halfS_len k i xs (by omega)
  rw [slv_set (xs := halfS k i xs) (by omega) ((k : Int) + 2 * (i : Int), (k : Int) + 2 * (i : Int) + 1), halfS_set h]
set_option maxHeartbeats 4000000 in
theorem markS_any (base : Nat) (v : Value) (xs : List (Int × Int)) (k : Nat) (h1 : k ≤ 8388608) (hx : xs.length ≤ 4194304) (W : World) (hown : W.ownsRow base 58 2 v xs.length (slv xs)) :
    Calls Try.prog 44 #[v, .int .i64 k] W fun e w' => e = .returned (.int .i64 ((k : Int) + 2 * (xs.length : Int))) ∧ w'.ownsRow base 58 2 v xs.length (slv (marksS k xs.length)) ∧ W.grownBy w' v.ownBlock := by
  have hform := hown.2
  rcases hform with ⟨rfl, hn0⟩ | ⟨g, cap, cur, rfl, -⟩
  · have hxs : xs = [] := List.eq_nil_of_length_eq_zero hn0
    subst hxs
    clear hown
    go_enter Try.func44, Try.ntmps44
    go_wp2
    go_loop [1, 5] (fun vk vi => vk = .int .i64 k ∧ vi = .int .i64 0) (fun _ _ => 0)
    case atStart => exact ⟨rfl, rfl⟩
    case round =>
      obtain ⟨rfl, rfl⟩ := hrel
      go_wp2
      go_ret
      exact ⟨by simp, World.ownsRow_nil _ _ _ _, World.grownBy.refl _ _⟩
  · go_enter Try.func44, Try.ntmps44
    go_wp2
    go_loopw [1, 5] (fun vk vi wr => ∃ i : Nat, vi = .int .i64 i ∧ vk = .int .i64 ((k : Int) + 2 * (i : Int)) ∧ i ≤ xs.length ∧ Hid (wr.ownsRow base 58 2 (.slice (some ⟨g, 0, none⟩) xs.length cap) xs.length (slv (halfS k i xs))) ∧ Hid (W.grownBy wr (some g))) (fun _ vi _ => xs.length - (intOf vi).toNat)
    case atStart => exact ⟨0, rfl, by simp, by omega, Lib.hid (by simpa [halfS, marksS] using hown), Lib.hid (World.grownBy.refl _ _)⟩
    case round =>
      obtain ⟨i, rfl, rfl, hi, HO, HG⟩ := hrel
      clear hown
      by_cases hp : i < xs.length
      · have i1 : (i : Int) < (xs.length : Int) := by omega
        have hl := halfS_len k i xs (by omega)
        obtain ⟨u0, c0⟩ : ∃ u, wr.cell? ⟨g, i * 2, none⟩ = some u := ⟨_, (HO.out.cellAt (i * 2) (by omega)).trans (slv_get0 (by omega))⟩
        obtain ⟨u1, c1⟩ : ∃ u, wr.cell? ⟨g, i * 2 + 1, none⟩ = some u := ⟨_, (HO.out.cellAt (i * 2 + 1) (by omega)).trans (slv_get1 (by omega))⟩
        have f0 := HO.out.frozenAt (i * 2)
        have f1 := HO.out.frozenAt (i * 2 + 1)
        have s1 := HO.out.stored (i * 2) (.int .i64 ((k : Int) + 2 * (i : Int)))
        have s2 := s1.1.stored (i * 2 + 1) (.int .i32 ((k : Int) + 2 * (i : Int) + 1))
        have hs := s2.1
        rw [slv_mid hp] at hs
        have HS := Lib.hid hs
        have HG2 := Lib.hid (only_trans HG.out (only_trans s1.2 s2.2))
        clear s1 s2 hs hl HO HG
        go_wp2
        go_roundw
        case rel => exact ⟨i + 1, by go_num, by go_num, by omega, HS, HG2⟩
        case measure => simp [intOf]; omega
      · obtain rfl : i = xs.length := by omega
        go_wp2
        go_ret
        have h2 := HO.out
        simp only [halfS, List.drop_length, List.append_nil] at h2
        exact ⟨rfl, h2, HG.out⟩

set_option maxHeartbeats 4000000 in
theorem heldS_any (v : Value) (k n : Nat) (h1 : k ≤ 8388608) (hx : n ≤ 4194304) (w : World) (ha : RdS w v (marksS k n)) :
    Calls Try.prog 60 #[v, .int .i64 k] w fun e w' => e = .returned (.int .i64 ((k : Int) + 2 * (n : Int))) ∧ w = w' := by
  obtain ⟨A, ca, rfl⟩ := ha.form
  rw [marksS_len]
  have HA : Hid (∀ i, i < n → ∃ a, A = some a ∧ w.cell? (a.add (i * 2)) = some (.int .i64 ((k : Int) + 2 * (i : Int))) ∧ w.cell? ⟨(a.add (i * 2)).block, (a.add (i * 2)).off + 1, none⟩ = some (.int .i32 ((k : Int) + 2 * (i : Int) + 1))) := Lib.hid fun i hi => by
    obtain ⟨a, h1, -, h3, h4⟩ := ha.item (show i < (marksS k n).length by rw [marksS_len]; exact hi)
    refine ⟨a, h1, ?_, ?_⟩
    · rw [h3, marksS_get]
    · rw [h4, marksS_get]
  clear ha
  go_enter Try.func60, Try.ntmps60
  go_wp2
  go_loop [1, 5] (fun vk vi => ∃ i : Nat, vi = .int .i64 i ∧ vk = .int .i64 ((k : Int) + 2 * (i : Int)) ∧ i ≤ n) (fun _ vi => n - (intOf vi).toNat)
  case atStart => exact ⟨0, rfl, by simp, by omega⟩
  case round =>
    obtain ⟨i, rfl, rfl, hi⟩ := hrel
    by_cases hp : i < n
    · have i2 : (i : Int) < (n : Int) := by omega
      obtain ⟨a, rfl, c0, c1⟩ := HA.out i hp
      obtain ⟨z, hz⟩ : ∃ z, (k : Int) + 2 * (i : Int) = z := ⟨_, rfl⟩
      have hz1 : 0 ≤ z := by omega
      have hz2 : z ≤ 20000000 := by omega
      rw [hz] at c0 c1 ⊢
      have q0 : (z != z) = false := by simp
      have q1 : (z + 1 != z + 1) = false := by simp
      have HZ := Lib.hid hz
      clear hz
      go_wp2
      go_round
      case rel => exact ⟨i + 1, by go_num, by rw [← HZ.out]; go_num, by omega⟩
      case measure => simp [intOf]; omega
    · obtain rfl : i = n := by omega
      go_wp2
      go_ret
      exact ⟨rfl, rfl⟩

set_option maxHeartbeats 1000000 in
theorem toslot_any (x y : Int) (w : World) : Calls Try.prog 53 #[.agg #[.int .i64 x, .int .i32 y]] w fun e w' => e = .returned (.agg #[.int .i64 x, .int .i32 y]) ∧ Below w.heap.size w w' := by
  go_enter Try.func53, Try.ntmps53
  go_wp2
  exact bodyPost_ret (v := .agg #[.int .i64 x, .int .i32 y]) (by simp [results, Try.results53, go_sem]) rfl ⟨rfl, by go_grown⟩

def copiedS (xs : List (Int × Int)) (i : Nat) : List (Int × Int) := xs.take i ++ List.replicate (xs.length - i) (0, 0)
theorem copiedS_len (xs : List (Int × Int)) (i : Nat) (h : i ≤ xs.length) : (copiedS xs i).length = xs.length := by simp [copiedS]; omega
theorem slv_rep (n : Nat) : slv (List.replicate n (0, 0)) = (List.replicate n [Value.int .i64 0, Value.int .i32 0]).flatten := by
  induction n with
  | zero => rfl
  | succ n ih => simp only [List.replicate_succ, slv, ih, List.flatten_cons, List.cons_append, List.nil_append]
theorem copiedS_zero (xs : List (Int × Int)) : slv (copiedS xs 0) = (List.replicate xs.length [Value.int .i64 0, Value.int .i32 0]).flatten := by simp [copiedS, slv_rep]
theorem copiedS_full (xs : List (Int × Int)) : copiedS xs xs.length = xs := by simp [copiedS]
theorem copiedS_set {xs : List (Int × Int)} {i : Nat} (h : i < xs.length) : ((slv (copiedS xs i)).set (i * 2) (.int .i64 xs[i].1)).set (i * 2 + 1) (.int .i32 xs[i].2) = slv (copiedS xs (i + 1)) := by
  rw [slv_set (xs := copiedS xs i) (by rw [copiedS_len xs i (by omega)]; exact h)]
  congr 1
  unfold copiedS
  obtain ⟨m, hm⟩ : ∃ m, xs.length - i = m + 1 := ⟨xs.length - i - 1, by omega⟩
  rw [hm, show xs.length - (i + 1) = m by omega, List.replicate_succ, List.set_append_right _ _ (by simp; omega)]
  have : i - (xs.take i).length = 0 := by simp; omega
  rw [this, List.set_cons_zero, List.take_succ_eq_append_getElem h, List.append_assoc]
  rfl
theorem made_slv (n : Nat) : (madeCells #[Value.int .i64 0, Value.int .i32 0] (n * 2)).toList = slv (List.replicate n (0, 0)) := by
  refine List.ext_getElem (by simp [madeCells, slv_len]) fun i h1 h2 => ?_
  have h3 : i < n * 2 := by simpa [madeCells] using h1
  obtain ⟨j, hj⟩ : ∃ j, i = j * 2 ∨ i = j * 2 + 1 := ⟨i / 2, by omega⟩
  rcases hj with rfl | rfl
  · have := slv_get0 (xs := List.replicate n (0, 0)) (i := j) (by simp; omega)
    rw [List.getElem?_eq_getElem h2] at this
    rw [Option.some.inj this]
    simp [madeCells]
  · have := slv_get1 (xs := List.replicate n (0, 0)) (i := j) (by simp; omega)
    rw [List.getElem?_eq_getElem h2] at this
    rw [Option.some.inj this]
    have e : (j * 2 + 1) % 2 = 1 := by omega
    simp [madeCells, e]
set_option maxHeartbeats 4000000 in
theorem toS_any (v : Value) (xs : List (Int × Int)) (hx : xs.length ≤ 4194304) (W : World) (ha : RdS W v xs) : Calls Try.prog 28 #[v] W (NewS W xs) := by
  obtain ⟨i0, hi, hz0, hz1, hz2⟩ := info_parts infoS
  obtain ⟨A, ca, rfl⟩ := ha.form
  have HA := Lib.hid (fun w (h : Below W.heap.size W w) => ha.below h)
  clear ha
  go_enter Try.func28, Try.ntmps28
  go_wp2_with (refine wpList_make_full _ rfl _ _ _ rfl W.heap.size 58 i0 (.agg #[.int .i64 0, .int .i32 0]) 2 Try.underlying32 hi hz0 hz1 .i64 .i64 _ _ xs.length rfl rfl rfl rfl (by rw [hz2]; omega) (by unfold maxLen; omega) (Nat.le_refl _) ?_; intro w1 hown hgr)
  have hb1 : Below W.heap.size W w1 := (Below.refl _ _).grown hgr (Nat.le_refl _) (fun k hk => by cases hk)
  have hown1 : w1.ownsRow W.heap.size 58 2 (.slice (some ⟨W.heap.size, 0, none⟩) xs.length xs.length) xs.length (slv (copiedS xs 0)) := by
    have e : (madeCells (Value.agg #[Value.int .i64 0, Value.int .i32 0]).cells (xs.length * 2)).toList = slv (copiedS xs 0) := by
      have ec : copiedS xs 0 = List.replicate xs.length (0, 0) := by simp [copiedS]
      rw [ec]
      exact made_slv _
    rw [e] at hown
    exact hown
  have HB1 := Lib.hid hb1
  have HOWN1 := Lib.hid hown1
  clear hown hgr hb1 hown1
  go_loopw [4] (fun vi wr => ∃ i : Nat, vi = .int .i64 i ∧ i ≤ xs.length ∧ Hid (wr.ownsRow W.heap.size 58 2 (.slice (some ⟨W.heap.size, 0, none⟩) xs.length xs.length) xs.length (slv (copiedS xs i))) ∧ Hid (Below W.heap.size W wr)) (fun vi _ => xs.length - (intOf vi).toNat)
  case atStart => exact ⟨0, rfl, by omega, HOWN1, HB1⟩
  case round =>
    clear HOWN1 HB1
    obtain ⟨i, rfl, hi2, HO, HB⟩ := hrel
    by_cases hp : i < xs.length
    · obtain ⟨ga, rfl, -, c0, c1⟩ := (HA.out wr HB.out).item hp
      obtain ⟨x, hx'⟩ : ∃ x, xs[i] = x := ⟨_, rfl⟩
      obtain ⟨x1, x2⟩ := x
      have HX := Lib.hid hx'
      rw [hx'] at c0 c1
      have i2 : (i : Int) < (xs.length : Int) := by omega
      clear hx'
      go_wp2_with fail
      refine (toslot_any x1 x2 _).mono ?_
      rintro e w2 ⟨rfl, hb2⟩
      have hl := copiedS_len xs i (by omega)
      have HB2 := Lib.hid (HB.out.trans (hb2.mono HB.out.size))
      have HO2 := Lib.hid (HO.out.kept (only_of_below hb2 none) (by simp [Value.ownBlock]))
      obtain ⟨u0, d0⟩ : ∃ u, w2.cell? ⟨W.heap.size, i * 2, none⟩ = some u := ⟨_, (HO2.out.cellAt (i * 2) (by omega)).trans (slv_get0 (by omega))⟩
      obtain ⟨u1, d1⟩ : ∃ u, w2.cell? ⟨W.heap.size, i * 2 + 1, none⟩ = some u := ⟨_, (HO2.out.cellAt (i * 2 + 1) (by omega)).trans (slv_get1 (by omega))⟩
      have f0 := HO2.out.frozenAt (i * 2)
      have f1 := HO2.out.frozenAt (i * 2 + 1)
      have s1 := HO2.out.stored (i * 2) (.int .i64 x1)
      have s2 := s1.1.stored (i * 2 + 1) (.int .i32 x2)
      have hs := s2.1
      have hcs := copiedS_set (xs := xs) hp
      rw [HX.out] at hcs
      rw [hcs] at hs
      have HS := Lib.hid hs
      have HG2 := Lib.hid (only_trans s1.2 s2.2)
      clear s1 s2 hs hl HO HB hb2 hcs HO2 c0 c1
      go_wp2_with fail
      go_roundw
      case rel => exact ⟨i + 1, by go_num, by omega, HS, Lib.hid (HB2.out.grown HG2.out HB2.out.size (fun k hk => by injection hk with hk; omega))⟩
      case measure => simp [intOf]; omega
    · obtain rfl : i = xs.length := by omega
      have h2 := HO.out
      rw [copiedS_full] at h2
      have H2 := Lib.hid h2
      clear h2 HO
      go_wp2
      go_ret
      exact ⟨_, rfl, H2.out, HB.out⟩
end Go.Proofs.Ytmnfdbgiemappaa

namespace Go.Proofs.Ytmnfdbgiemappaa
open Go

/-- One cell more into a sum. -/
def sumStep (h c : Nat) : Nat := ((h ^^^ c) * 16777619) % 4294967296
def sumFrom (h : Nat) (l : List Nat) : Nat := l.foldl sumStep h
def sumL (l : List Nat) : Nat := sumFrom 2166136261 l
theorem sumStep_lt (h c : Nat) : sumStep h c < 4294967296 := Nat.mod_lt _ (by decide)
theorem sumFrom_lt {h : Nat} (hh : h < 4294967296) : ∀ l : List Nat, sumFrom h l < 4294967296
  | [] => hh
  | c :: r => sumFrom_lt (sumStep_lt h c) r
theorem sumL_lt (l : List Nat) : sumL l < 4294967296 := by
  unfold sumL
  exact sumFrom_lt (by omega) l
theorem sumFrom_cons (h c : Nat) (r : List Nat) : sumFrom h (c :: r) = sumFrom (sumStep h c) r := by unfold sumFrom; rw [List.foldl_cons]
theorem sumFrom_append (h : Nat) (a b : List Nat) : sumFrom h (a ++ b) = sumFrom (sumFrom h a) b := by unfold sumFrom; rw [List.foldl_append]
theorem sumFrom_snoc (h : Nat) (a : List Nat) (c : Nat) : sumFrom h (a ++ [c]) = sumStep (sumFrom h a) c := by rw [sumFrom_append]; unfold sumFrom; rw [List.foldl_cons, List.foldl_nil]
/-- A factor that has an inverse. -/
theorem times_back {M p q m z : Nat} (h : p * q = m * M + 1) (hz : z < M) : (z * p % M) * q % M = z := by
  rw [Nat.mod_mul_mod, Nat.mul_assoc, h, Nat.mul_add, Nat.mul_one, ← Nat.mul_assoc, Nat.add_comm, Nat.add_mul_mod_self_right]
  exact Nat.mod_eq_of_lt hz
theorem times_same {M p q m x y : Nat} (h : p * q = m * M + 1) (hx : x < M) (hy : y < M) (e : x * p % M = y * p % M) : x = y := by
  rw [← times_back h hx, ← times_back h hy, e]
theorem times_inj {x y : Nat} (hx : x < 4294967296) (hy : y < 4294967296) (h : x * 16777619 % 4294967296 = y * 16777619 % 4294967296) : x = y :=
  times_same (q := 899433627) (m := 3513497) (by decide) hx hy h
theorem xor32 {a b : Nat} (ha : a < 4294967296) (hb : b < 4294967296) : a ^^^ b < 4294967296 := Nat.xor_lt_two_pow (n := 32) ha hb
theorem xor_back (a b : Nat) : a ^^^ b ^^^ b = a := by rw [Nat.xor_assoc, Nat.xor_self, Nat.xor_zero]
theorem sumStep_inj_h {h h' c : Nat} (hh : h < 4294967296) (hh' : h' < 4294967296) (hc : c < 4294967296) (e : sumStep h c = sumStep h' c) : h = h' := by
  have := times_inj (xor32 hh hc) (xor32 hh' hc) e
  rw [← xor_back h c, ← xor_back h' c, this]
theorem sumStep_inj_c {h c c' : Nat} (hh : h < 4294967296) (hc : c < 4294967296) (hc' : c' < 4294967296) (e : sumStep h c = sumStep h c') : c = c' := by
  have h2 := times_inj (xor32 hh hc) (xor32 hh hc') e
  rw [Nat.xor_comm h c, Nat.xor_comm h c'] at h2
  rw [← xor_back c h, ← xor_back c' h, h2]
theorem sumFrom_inj : ∀ (l : List Nat) {h h' : Nat}, h < 4294967296 → h' < 4294967296 → (∀ c ∈ l, c < 4294967296) → sumFrom h l = sumFrom h' l → h = h'
  | [], _, _, _, _, _, e => e
  | c :: r, h, h', hh, hh', hs, e => by
    have := sumFrom_inj r (sumStep_lt h c) (sumStep_lt h' c) (fun x hx => hs x (by simp [hx])) e
    exact sumStep_inj_h hh hh' (hs c (by simp)) this
/-- Cells of which just one is another one have another sum. -/
theorem sum_set {l : List Nat} {i x : Nat} (hi : i < l.length) (hs : ∀ c ∈ l, c < 4294967296) (hx : x < 4294967296) (hne : l[i] ≠ x) : sumL (l.set i x) ≠ sumL l := by
  intro e
  have h1 : l = l.take i ++ l[i] :: l.drop (i + 1) := by rw [← List.drop_eq_getElem_cons hi, List.take_append_drop]
  have h2 : l.set i x = l.take i ++ x :: l.drop (i + 1) := by rw [List.set_eq_take_append_cons_drop, if_pos hi]
  have hm := hs _ (List.getElem_mem hi)
  have hr : ∀ c ∈ l.drop (i + 1), c < 4294967296 := fun c hc => hs c (List.mem_of_mem_drop hc)
  have ht := sumFrom_lt (h := 2166136261) (by omega) (l.take i)
  unfold sumL at e
  rw [h2] at e
  have e2 : sumFrom 2166136261 l = sumFrom 2166136261 (l.take i ++ l[i] :: l.drop (i + 1)) := by rw [← h1]
  rw [e2, sumFrom_append, sumFrom_append, sumFrom_cons, sumFrom_cons] at e
  have e3 := sumFrom_inj _ (sumStep_lt _ _) (sumStep_lt _ _) hr e
  exact hne (sumStep_inj_c ht hx hm e3).symm

/-- A number of 32 bits as four bytes, the lowest first. -/
def fourB (c : Nat) : List Nat := [c % 256, c / 256 % 256, c / 65536 % 256, c / 16777216 % 256]
/-- Four bytes as a number. -/
def wordB (a b c d : Nat) : Nat := a + b * 256 + c * 65536 + d * 16777216
theorem wordB_four {c : Nat} (h : c < 4294967296) : wordB (c % 256) (c / 256 % 256) (c / 65536 % 256) (c / 16777216 % 256) = c := by unfold wordB; omega
theorem wordB_lt {a b c d : Nat} (ha : a < 256) (hb : b < 256) (hc : c < 256) (hd : d < 256) : wordB a b c d < 4294967296 := by unfold wordB; omega
/-- Bytes in fours. -/
def wordsB : List Nat → List Nat
  | a :: b :: c :: d :: r => wordB a b c d :: wordsB r
  | _ => []
theorem wordsB_four : ∀ l : List Nat, (∀ c ∈ l, c < 4294967296) → wordsB (l.flatMap fourB) = l
  | [], _ => rfl
  | c :: r, h => by
    show wordB _ _ _ _ :: wordsB (r.flatMap fourB) = _
    rw [wordB_four (h c (by simp)), wordsB_four r fun x hx => h x (by simp [hx])]
theorem four_len (l : List Nat) : (l.flatMap fourB).length = 4 * l.length := by
  induction l with
  | nil => rfl
  | cons c r ih => rw [List.flatMap_cons, List.length_append, ih, List.length_cons]; show 4 + _ = _; omega
/-- The bytes of right cells. -/
def imageL (l : List Nat) : List Nat := l.length / 64 :: (l ++ [sumL l]).flatMap fourB
theorem imageL_len (l : List Nat) : (imageL l).length = 5 + 4 * l.length := by
  unfold imageL
  rw [List.length_cons, four_len, List.length_append]
  show 4 * (l.length + 1) + 1 = _
  omega
/-- Whether bytes are those of a store. -/
def readOk (b : List Nat) : Bool := decide (5 ≤ b.length ∧ b.headD 0 ≤ 12 ∧ b.length = 5 + 256 * b.headD 0 ∧ sumL ((wordsB b.tail).take (64 * b.headD 0)) = (wordsB b.tail).getD (64 * b.headD 0) 0)
/-- The cells of bytes. -/
def readL (b : List Nat) : List Nat := if readOk b = true then (wordsB b.tail).take (64 * b.headD 0) else []
theorem wordsB_image (l : List Nat) (hs : ∀ c ∈ l, c < 4294967296) : wordsB (imageL l).tail = l ++ [sumL l] := by
  show wordsB ((l ++ [sumL l]).flatMap fourB) = _
  exact wordsB_four _ fun c hc => by
    rcases List.mem_append.1 hc with h | h
    · exact hs c h
    · rw [List.mem_singleton.1 h]; exact sumL_lt l
/-- A store comes back from its bytes. -/
theorem read_image {l : List Nat} (hs : ∀ c ∈ l, c < 4294967296) (hm : l.length % 64 = 0) (hl : l.length ≤ 768) : readOk (imageL l) = true ∧ readL (imageL l) = l := by
  have h1 : (imageL l).headD 0 = l.length / 64 := rfl
  have h2 : 64 * (l.length / 64) = l.length := by omega
  have h3 : readOk (imageL l) = true := by
    unfold readOk
    rw [h1, wordsB_image l hs, h2]
    refine decide_eq_true ⟨by rw [imageL_len]; omega, by omega, by rw [imageL_len]; omega, ?_⟩
    rw [List.take_left]
    simp
  refine ⟨h3, ?_⟩
  unfold readL
  rw [if_pos h3, h1, wordsB_image l hs, h2, List.take_left]
theorem wordB_inj {a b c d a' b' c' d' : Nat} (ha : a < 256) (hb : b < 256) (hc : c < 256) (ha' : a' < 256) (hb' : b' < 256) (hc' : c' < 256) (h : wordB a b c d = wordB a' b' c' d') : a = a' ∧ b = b' ∧ c = c' ∧ d = d' := by
  unfold wordB at h
  omega
/-- One byte turned turns one number. -/
theorem wordsB_set : ∀ (n : Nat) (b : List Nat) (i x : Nat), b.length = 4 * n → (∀ y ∈ b, y < 256) → x < 256 → (hi : i < b.length) → b[i] ≠ x →
    ∃ (hj : i / 4 < (wordsB b).length) (z : Nat), z < 4294967296 ∧ wordsB (b.set i x) = (wordsB b).set (i / 4) z ∧ (wordsB b)[i / 4] ≠ z
  | 0, [], i, x, _, _, _, hi, _ => absurd hi (Nat.not_lt_zero _)
  | 0, _ :: _, i, x, h, _, _, _, _ => by simp at h
  | n + 1, [], i, x, h, _, _, _, _ => by simp at h
  | n + 1, [a], i, x, h, _, _, _, _ => by simp at h; omega
  | n + 1, [a, b], i, x, h, _, _, _, _ => by simp at h; omega
  | n + 1, [a, b, c], i, x, h, _, _, _, _ => by simp at h; omega
  | n + 1, a :: b :: c :: d :: r, i, x, h, hs, hx, hi, hne => by
    have ha := hs a (by simp)
    have hb := hs b (by simp)
    have hc := hs c (by simp)
    have hd := hs d (by simp)
    match i, hi, hne with
    | 0, _, hne => exact ⟨by simp [wordsB], wordB x b c d, wordB_lt hx hb hc hd, rfl, fun e => hne (wordB_inj ha hb hc hx hb hc e).1⟩
    | 1, _, hne => exact ⟨by simp [wordsB], wordB a x c d, wordB_lt ha hx hc hd, rfl, fun e => hne (wordB_inj ha hb hc ha hx hc e).2.1⟩
    | 2, _, hne => exact ⟨by simp [wordsB], wordB a b x d, wordB_lt ha hb hx hd, rfl, fun e => hne (wordB_inj ha hb hc ha hb hx e).2.2.1⟩
    | 3, _, hne => exact ⟨by simp [wordsB], wordB a b c x, wordB_lt ha hb hc hx, rfl, fun e => hne (wordB_inj ha hb hc ha hb hc e).2.2.2⟩
    | i + 4, hi, hne =>
      obtain ⟨hj, z, hz, e1, e2⟩ := wordsB_set n r i x (by simp at h; omega) (fun y hy => hs y (by simp [hy])) hx (by simp at hi; omega) (by simpa using hne)
      have hq : (i + 4) / 4 = i / 4 + 1 := by omega
      refine ⟨by rw [hq]; show _ < (wordB a b c d :: wordsB r).length; rw [List.length_cons]; omega, z, hz, ?_, ?_⟩
      · rw [hq]
        show wordB a b c d :: wordsB (r.set i x) = wordB a b c d :: (wordsB r).set (i / 4) z
        rw [e1]
      · simp only [hq]
        exact e2
/-- Bytes of a store that are turned in one place are those of none. -/
theorem read_turned {l : List Nat} (hs : ∀ c ∈ l, c < 4294967296) (hm : l.length % 64 = 0) {i x : Nat} (hi : i < (imageL l).length) (hx : x < 256) (hne : (imageL l)[i] ≠ x) : readOk ((imageL l).set i x) = false := by
  refine decide_eq_false fun ⟨h5, h12, hlen, hsum⟩ => ?_
  rw [List.length_set, imageL_len] at hlen
  match i, hi, hne with
  | 0, _, hne =>
    have e : ((imageL l).set 0 x).headD 0 = x := rfl
    rw [e] at hlen
    exact hne (by show l.length / 64 = x; omega)
  | i + 1, hi, hne =>
    have e : ((imageL l).set (i + 1) x).headD 0 = l.length / 64 := rfl
    have et : ((imageL l).set (i + 1) x).tail = (imageL l).tail.set i x := rfl
    have h64 : 64 * (l.length / 64) = l.length := by omega
    rw [e, et, h64] at hsum
    have hlt : (imageL l).tail.length = 4 * (l.length + 1) := by rw [List.length_tail, imageL_len]; omega
    have hbytes : ∀ y ∈ (imageL l).tail, y < 256 := fun y hy => by
      have hy : y ∈ (l ++ [sumL l]).flatMap fourB := hy
      obtain ⟨c, _, h2⟩ := List.mem_flatMap.1 hy
      simp [fourB] at h2
      omega
    have hi2 : i < (imageL l).tail.length := by rw [hlt]; rw [imageL_len] at hi; omega
    obtain ⟨hj, z, hz, e1, e2⟩ := wordsB_set _ _ i x hlt hbytes hx hi2 hne
    rw [e1, wordsB_image l hs] at hsum
    simp only [wordsB_image l hs] at e2 hj
    rw [List.length_append, List.length_singleton] at hj
    by_cases hjl : i / 4 < l.length
    · rw [List.set_append_left _ _ hjl, List.take_left' (by rw [List.length_set]), List.getD_eq_getElem?_getD, List.getElem?_append_right (by rw [List.length_set]; omega)] at hsum
      rw [List.length_set, Nat.sub_self] at hsum
      rw [List.getElem_append_left hjl] at e2
      exact sum_set hjl hs hz e2 hsum
    · have hjl : i / 4 = l.length := by omega
      rw [hjl, List.set_append_right _ _ (Nat.le_refl _), Nat.sub_self, List.take_left] at hsum
      simp at hsum
      simp [hjl] at e2
      exact e2 hsum
end Go.Proofs.Ytmnfdbgiemappaa

namespace Go.Proofs.Ytmnfdbgiemappaa
open Go

def storeB (n : Nat) : Bool := decide (n % 64 = 0 ∧ n ≤ 768)
def hasB (n : Nat) (b : Int) : Bool := decide ((n % 64 = 0 ∧ n ≤ 768) ∧ 0 ≤ b ∧ b < ((n / 64 : Nat) : Int))
/-- Block b. -/
def blockL (l : List Nat) (b : Nat) : List Nat := (l.drop (64 * b)).take 64
/-- Cells with noughts behind them, as many as a block has. -/
def padL (cells : List Nat) : List Nat := cells ++ List.replicate (64 - cells.length) 0
/-- The store with i cells of block b as they are to be. -/
def putI (l : List Nat) (b : Nat) (cells : List Nat) (i : Nat) : List Nat := l.take (64 * b) ++ (padL cells).take i ++ l.drop (64 * b + i)
def putL (l : List Nat) (b : Nat) (cells : List Nat) : List Nat := putI l b cells 64
theorem hasB_some {n : Nat} {b : Int} (h : hasB n b = true) : ∃ k : Nat, b = k ∧ n % 64 = 0 ∧ n ≤ 768 ∧ 64 * k + 64 ≤ n := by
  obtain ⟨⟨h1, h2⟩, h3, h4⟩ := of_decide_eq_true h
  exact ⟨b.toNat, by omega, h1, h2, by omega⟩
theorem padL_len {cells : List Nat} (h : cells.length ≤ 64) : (padL cells).length = 64 := by unfold padL; rw [List.length_append, List.length_replicate]; omega
theorem padL_at {cells : List Nat} (h : cells.length ≤ 64) (i : Nat) (hi : i < 64) : (padL cells)[i]'(by rw [padL_len h]; exact hi) = if hc : i < cells.length then cells[i] else 0 := by
  unfold padL
  split
  · rw [List.getElem_append_left]
  · rw [List.getElem_append_right (by omega), List.getElem_replicate]
theorem padL_small {cells : List Nat} (h : ∀ c ∈ cells, c < 4294967296) : ∀ c ∈ padL cells, c < 4294967296 := by
  intro c hc
  rcases List.mem_append.1 hc with h1 | h1
  · exact h c h1
  · rw [(List.mem_replicate.1 h1).2]; decide
theorem putI_zero (l : List Nat) (b : Nat) (cells : List Nat) : putI l b cells 0 = l := by
  unfold putI
  rw [List.take_zero, List.append_nil, Nat.add_zero, List.take_append_drop]
theorem putI_len {l : List Nat} {b i : Nat} {cells : List Nat} (hb : 64 * b + 64 ≤ l.length) (hc : cells.length ≤ 64) (hi : i ≤ 64) : (putI l b cells i).length = l.length := by
  have h := padL_len hc
  unfold putI
  rw [List.length_append, List.length_append, List.length_take, List.length_take, List.length_drop, h]
  omega
/-- One cell more. -/
theorem putI_set {l : List Nat} {b i : Nat} {cells : List Nat} (hb : 64 * b + 64 ≤ l.length) (hc : cells.length ≤ 64) (hi : i < 64) : (putI l b cells i).set (64 * b + i) ((padL cells)[i]'(by rw [padL_len hc]; exact hi)) = putI l b cells (i + 1) := by
  have h := padL_len hc
  have h1 : (l.take (64 * b) ++ (padL cells).take i).length = 64 * b + i := by
    rw [List.length_append, List.length_take, List.length_take, h]; omega
  have h2 : l.drop (64 * b + i) = l[64 * b + i]'(by omega) :: l.drop (64 * b + i + 1) := List.drop_eq_getElem_cons (by omega)
  unfold putI
  rw [List.set_append_right _ _ (by rw [h1]; exact Nat.le_refl _), h1, Nat.sub_self, h2, List.set_cons_zero]
  have h3 : (padL cells).take (i + 1) = (padL cells).take i ++ [(padL cells)[i]'(by rw [h]; exact hi)] := List.take_succ_eq_append_getElem (by rw [h]; exact hi)
  rw [h3, ← List.append_assoc (l.take (64 * b)), List.append_assoc (l.take (64 * b) ++ (padL cells).take i) [_]]
  rfl
theorem putL_len {l : List Nat} {b : Nat} {cells : List Nat} (hb : 64 * b + 64 ≤ l.length) (hc : cells.length ≤ 64) : (putL l b cells).length = l.length := putI_len hb hc (Nat.le_refl _)
theorem putL_eq {l : List Nat} {b : Nat} {cells : List Nat} (hc : cells.length ≤ 64) : putL l b cells = l.take (64 * b) ++ padL cells ++ l.drop (64 * b + 64) := by
  unfold putL putI
  have h3 : (padL cells).take 64 = padL cells := List.take_of_length_le (by rw [padL_len hc]; exact Nat.le_refl _)
  rw [h3]
theorem putL_small {l : List Nat} {b : Nat} {cells : List Nat} (hl : ∀ c ∈ l, c < 4294967296) (hs : ∀ c ∈ cells, c < 4294967296) (hc : cells.length ≤ 64) : ∀ c ∈ putL l b cells, c < 4294967296 := by
  rw [putL_eq hc]
  intro c h
  rcases List.mem_append.1 h with h | h
  · rcases List.mem_append.1 h with h | h
    · exact hl c (List.mem_of_mem_take h)
    · exact padL_small hs c h
  · exact hl c (List.mem_of_mem_drop h)
theorem blockL_len {l : List Nat} {b : Nat} (hb : 64 * b + 64 ≤ l.length) : (blockL l b).length = 64 := by
  unfold blockL
  rw [List.length_take, List.length_drop]
  omega
/-- What is put into a block is there. -/
theorem block_put {l : List Nat} {b : Nat} {cells : List Nat} (hb : 64 * b + 64 ≤ l.length) (hc : cells.length ≤ 64) : blockL (putL l b cells) b = padL cells := by
  have h1 : (l.take (64 * b)).length = 64 * b := by rw [List.length_take]; omega
  rw [putL_eq hc]
  unfold blockL
  rw [List.append_assoc, List.drop_left' h1, List.take_left' (padL_len hc)]
/-- No other block changes. -/
theorem block_other {l : List Nat} {b k : Nat} {cells : List Nat} (hb : 64 * b + 64 ≤ l.length) (hc : cells.length ≤ 64) (hk : k ≠ b) : blockL (putL l b cells) k = blockL l k := by
  have hp := padL_len hc
  refine List.ext_getElem? fun j => ?_
  unfold blockL
  rw [List.getElem?_take, List.getElem?_take]
  by_cases hj : j < 64
  · rw [if_pos hj, if_pos hj, List.getElem?_drop, List.getElem?_drop, putL_eq hc]
    have h1 : (l.take (64 * b)).length = 64 * b := by rw [List.length_take]; omega
    rcases Nat.lt_or_ge k b with h | h
    · rw [List.append_assoc, List.getElem?_append_left (by omega), List.getElem?_take, if_pos (by omega)]
    · rw [List.getElem?_append_right (by rw [List.length_append, h1, hp]; omega), List.length_append, h1, hp, List.getElem?_drop]
      congr 1
      omega
  · rw [if_neg hj, if_neg hj]
end Go.Proofs.Ytmnfdbgiemappaa

namespace Go.Proofs.Ytmnfdbgiemappaa

/-- The decimal digits of u, none for 0. -/
def dd (u : Nat) : List UInt8 := if u = 0 then [] else Lib.decDigits u
theorem dd_zero : dd 0 = [] := rfl
theorem dd_pos {u : Nat} (h : u ≠ 0) : dd u = Lib.decDigits u := by unfold dd; rw [if_neg h]
theorem dd_step {u : Nat} (h : u ≠ 0) : dd u = dd (u / 10) ++ [UInt8.ofNat (48 + u % 10)] := by
  rw [dd_pos h, Lib.decDigits]
  by_cases h10 : u < 10
  · rw [dif_pos h10]
    have : u / 10 = 0 := by omega
    rw [this, dd_zero, Nat.mod_eq_of_lt h10]; rfl
  · rw [dif_neg h10, dd_pos (by omega)]
theorem dd_length {u : Nat} (h : u < 18446744073709551616) : (dd u).length ≤ 20 := by
  by_cases h0 : u = 0
  · subst h0; rw [dd_zero]; simp
  · rw [dd_pos h0, Lib.decDigits_length]; exact Lib.nDigits_le20 u h

def tenDigits : ByteArray := ⟨#[48, 49, 50, 51, 52, 53, 54, 55, 56, 57]⟩
theorem tenDigits_one_fin : ∀ i : Fin 10, tenDigits.extract i.val (i.val + 1) = ⟨#[UInt8.ofNat (48 + i.val)]⟩ := by decide +kernel
theorem tenDigits_one {i : Nat} (h : i < 10) : tenDigits.extract i (i + 1) = ⟨#[UInt8.ofNat (48 + i)]⟩ := tenDigits_one_fin ⟨i, h⟩
end Go.Proofs.Ytmnfdbgiemappaa

namespace Go.Proofs.Ytmnfdbgiemappaa
open Go.RowKit Go

/-- A state of the machine, as it is meant. -/
structure S8 where
  data : List Int
  ret : List (Int × Int)
  a : Int
  mem : List Int
  cells : List Nat
  vars : List Int
  out : List Nat
  inp : List Nat
  fault : Int
  fuel : Int
def zero8 : S8 := ⟨[], [], 0, [], [], [], [], [], 0, 0⟩
def kindsB (r : List (Int × Int)) : Bool := decide (∀ i (h : i < r.length), 0 ≤ (r[i]).1 ∧ (r[i]).1 ≤ 2)
def varsB (v : List Int) (n : Nat) : Bool := decide (∀ i (h : i < v.length), (0 ≤ v[i] ∧ v[i] < (n : Int)) ∧ v[i] ∉ v.take i)
/-- A right state. -/
def ok8 (S : S8) : Bool :=
  decide (S.data.length ≤ 16) && (decide (S.ret.length ≤ 24) && (decide (S.mem.length = 32) && (decide (S.vars.length ≤ 20) && (decide (S.out.length ≤ 400) && (decide (S.inp.length ≤ 100) &&
    (kindsB S.ret && (varsB S.vars S.cells.length && (storeB S.cells.length && (decide (0 ≤ S.fault ∧ S.fault ≤ 13) && decide (0 ≤ S.fuel ∧ S.fuel ≤ 4000))))))))))
structure Ok8 (S : S8) : Prop where
  data : S.data.length ≤ 16
  ret : S.ret.length ≤ 24
  mem : S.mem.length = 32
  vars : S.vars.length ≤ 20
  out : S.out.length ≤ 400
  inp : S.inp.length ≤ 100
  kinds : kindsB S.ret = true
  places : varsB S.vars S.cells.length = true
  store : storeB S.cells.length = true
  fault : 0 ≤ S.fault ∧ S.fault ≤ 13
  fuel : 0 ≤ S.fuel ∧ S.fuel ≤ 4000
theorem ok8_iff (S : S8) : ok8 S = true ↔ Ok8 S := by
  unfold ok8
  simp only [Bool.and_eq_true, decide_eq_true_eq]
  constructor
  · rintro ⟨h1, h2, h3, h4, h5, h6, h7, h8, h9, h10, h11⟩
    exact ⟨h1, h2, h3, h4, h5, h6, h7, h8, h9, h10, h11⟩
  · rintro ⟨h1, h2, h3, h4, h5, h6, h7, h8, h9, h10, h11⟩
    exact ⟨h1, h2, h3, h4, h5, h6, h7, h8, h9, h10, h11⟩
theorem Ok8.cells {S : S8} (h : Ok8 S) : S.cells.length ≤ 768 := by
  have := h.store
  unfold storeB at this
  exact (of_decide_eq_true this).2
/-- The i-th number from the top. -/
def top8 (S : S8) (i : Nat) : Int := S.data.getD (S.data.length - 1 - i) 0
/-- t numbers are taken, those of l put. -/
def put8 (S : S8) (t : Nat) (l : List Int) : Int ⊕ S8 := if 16 < S.data.length - t + l.length then .inl 2 else .inr { S with data := S.data.take (S.data.length - t) ++ l }
def drop8 (S : S8) (t : Nat) : S8 := { S with data := S.data.take (S.data.length - t) }
def takes8 (k : Nat) : Nat := [1, 1, 2, 2, 2, 2, 1, 2, 2, 2, 1, 1, 2, 1, 2, 0, 1, 1, 0, 1, 0, 0, 1, 0].getD k 0
/-- A number's text, as bytes' numbers. -/
def decN (y : Int) : List Nat := (Lib.itoa y).map (·.toNat)
/-- Numbers that make numbers. -/
def pure8 (k : Nat) (x y : Int) : List Int :=
  match k with
  | 0 => [y, y]
  | 1 => []
  | 2 => [x, y, x]
  | 3 => [y]
  | 4 => [y, x]
  | 5 => [wrap32 (x + y)]
  | 6 => [-1 - y]
  | 7 => [wrap32 (x * y)]
  | 8 => [bits .and .i32 x y]
  | 9 => [bits .xor .i32 x y]
  | 10 => [wrap32 (y + y)]
  | 11 => [y / 2]
  | _ => []
def say8 (S : S8) (b : List Nat) : Int ⊕ S8 := if 400 < S.out.length + b.length then .inl 13 else .inr { drop8 S 1 with out := S.out ++ b }
/-- What a word makes of a state with numbers enough. -/
def prim8 (k : Nat) (S : S8) (x y : Int) : Int ⊕ S8 :=
  match k with
  | 12 => if y = 0 then .inl 5 else put8 S 2 [x.tmod y, wrap32 (x.tdiv y)]
  | 13 => if 0 ≤ y ∧ y ≤ 31 then put8 S 1 [S.mem.getD y.toNat 0] else if 1024 ≤ y ∧ y < 1024 + (S.cells.length : Int) then put8 S 1 [wrap32 (S.cells.getD (y - 1024).toNat 0 : Nat)] else .inl 4
  | 14 => if 0 ≤ y ∧ y ≤ 31 then .inr { drop8 S 2 with mem := S.mem.set y.toNat x } else if y - 1024 ∈ S.vars then .inr { drop8 S 2 with cells := S.cells.set (y - 1024).toNat (x % 4294967296).toNat } else .inl 4
  | 15 => put8 S 0 [S.a]
  | 16 => .inr { drop8 S 1 with a := y }
  | 17 => say8 S [(y % 256).toNat]
  | 18 => match S.inp with
    | [] => put8 S 0 [-1]
    | b :: r => put8 { S with inp := r } 0 [(b : Int)]
  | 19 => if S.ret.length = 24 then .inl 3 else .inr { drop8 S 1 with ret := S.ret ++ [(0, y)] }
  | 20 => match S.ret.getLast? with
    | none => .inl 3
    | some t => if t.1 = 0 then put8 { S with ret := S.ret.dropLast } 0 [t.2] else .inl 11
  | 21 => match S.ret.getLast? with
    | none => .inl 3
    | some t => if t.1 = 2 then .inl 11 else put8 S 0 [t.2]
  | 22 => say8 S (decN y ++ [32])
  | _ => put8 S (takes8 k) (pure8 k x y)
def word8 (S : S8) (k : Int) : Int ⊕ S8 :=
  if k < 0 ∨ 23 < k then .inl 1 else if S.data.length < takes8 k.toNat then .inl 2 else prim8 k.toNat S (top8 S 1) (top8 S 0)
/-- The state behind a word: the same one with a fault, or the next one. -/
def fin8 (S : S8) : Int ⊕ S8 → S8
  | .inl f => { S with fault := f }
  | .inr T => T
def do8 (S : S8) (k : Int) : S8 := if ok8 S = true then (if S.fault = 0 then fin8 S (word8 S k) else S) else zero8
def push8 (S : S8) (n : Int) : S8 := if ok8 S = true then (if S.fault = 0 then fin8 S (put8 S 0 [n]) else S) else zero8
def new8 (cells : List Nat) (inp : List Nat) (fuel : Int) : S8 := if inp.length ≤ 100 ∧ storeB cells.length = true ∧ 0 ≤ fuel ∧ fuel ≤ 4000 then ⟨[], [], 0, List.replicate 32 0, cells, [], [], inp, 0, fuel⟩ else zero8
/-- How many marks a state takes. -/
def totSt (S : S8) : Nat := S.data.length + 2 * S.ret.length + S.mem.length + S.cells.length + S.vars.length + S.out.length + S.inp.length
theorem Ok8.tot {S : S8} (h : Ok8 S) : totSt S ≤ 1500 := by
  have h1 := h.cells
  have := h.data; have := h.ret; have := h.mem; have := h.vars; have := h.out; have := h.inp
  unfold totSt
  omega
end Go.Proofs.Ytmnfdbgiemappaa

namespace Go.Proofs.Ytmnfdbgiemappaa
open Go.RowKit Go

/-- A state's lists can be read. -/
structure RdSt (w : World) (d r m c v o i : Value) (S : S8) : Prop where
  k : CapOk v
  d : RdI w d S.data
  r : RdS w r S.ret
  m : RdI w m S.mem
  c : RdN w c S.cells
  v : RdL w v S.vars
  o : RdM w o S.out
  i : RdM w i S.inp
theorem RdSt.below {w w' : World} {d r m c v o i : Value} {S : S8} (h : RdSt w d r m c v o i S) (hb : Below w.heap.size w w') : RdSt w' d r m c v o i S :=
  ⟨h.k, h.d.below hb, h.r.below hb, h.m.below hb, h.c.below hb, h.v.below hb, h.o.below hb, h.i.below hb⟩
theorem RdSt.form {w : World} {d r m c v o i : Value} {S : S8} (h : RdSt w d r m c v o i S) :
    (∃ A k, d = .slice A S.data.length k) ∧ (∃ A k, r = .slice A S.ret.length k) ∧ (∃ A k, m = .slice A S.mem.length k) ∧ (∃ A k, c = .slice A S.cells.length k) ∧ (∃ A k, v = .slice A S.vars.length k) ∧ (∃ A k, o = .slice A S.out.length k) ∧ (∃ A k, i = .slice A S.inp.length k) :=
  ⟨h.d.form, h.r.form, h.m.form, h.c.form, h.v.form, h.o.form, h.i.form⟩

/-- Nothing but the blocks from lo to hi (and new ones) has changed. -/
structure Kept (lo hi : Nat) (w w' : World) : Prop where
  os : w'.os = w.os
  tape : w'.tape = w.tape
  output : w'.output = w.output
  size : w.heap.size ≤ w'.heap.size
  block : ∀ k, k < w.heap.size → (k < lo ∨ hi ≤ k) → w'.heap[k]? = w.heap[k]?
theorem Kept.refl (lo hi : Nat) (w : World) : Kept lo hi w w := ⟨rfl, rfl, rfl, Nat.le_refl _, fun _ _ _ => rfl⟩
theorem Kept.trans {lo hi : Nat} {a b c : World} (h : Kept lo hi a b) (k : Kept lo hi b c) : Kept lo hi a c :=
  ⟨k.os.trans h.os, k.tape.trans h.tape, k.output.trans h.output, Nat.le_trans h.size k.size, fun i hi h2 => (k.block i (Nat.lt_of_lt_of_le hi h.size) h2).trans (h.block i hi h2)⟩
theorem Kept.below {lo hi : Nat} {w w' : World} (h : Kept lo hi w w') {B : Nat} (hB : B ≤ lo) (hw : B ≤ w.heap.size) : Below B w w' :=
  ⟨h.os, h.tape, h.output, h.size, fun k hk => h.block k (by omega) (.inl (by omega))⟩
theorem Kept.of_below {lo hi : Nat} {w w' : World} (h : Below w.heap.size w w') : Kept lo hi w w' := ⟨h.os, h.tape, h.output, h.size, fun k hk _ => h.block k hk⟩
theorem Kept.of_grown {lo hi : Nat} {w w' : World} {row : Option Nat} (h : w.grownBy w' row) (hr : ∀ k, row = some k → lo ≤ k ∧ k < hi) : Kept lo hi w w' :=
  ⟨h.os, h.tape, h.output, h.size, fun k hk h2 => h.block k hk (fun e => by have := hr k e.symm; omega)⟩
theorem own_same {w w' : World} {base size : Nat} {e : TypeId} {v : Value} {n : Nat} {xs : List Value} (h : w.ownsRow base e size v n xs) (hb : ∀ k, v.ownBlock = some k → w'.heap[k]? = w.heap[k]?) : w'.ownsRow base e size v n xs := by
  refine ⟨h.1, ?_⟩
  rcases h.2 with h0 | ⟨g, cap, cur, rfl, h1, h2, h3⟩
  · exact .inl h0
  · exact .inr ⟨g, cap, cur, rfl, h1, (hb g rfl).trans h2, h3⟩
theorem Blk.kept {lo hi : Nat} {w w' : World} {g : Nat} {t : TypeId} {cs : Array Value} (h : Blk w g t cs) (hk : Kept lo hi w w') (hg : g < lo ∨ hi ≤ g) : Blk w' g t cs := (hk.block g h.lt hg).trans h
/-- Two rows of unlike elements lie apart. -/
theorem rows_ne {w : World} {b1 b2 s1 s2 n1 n2 : Nat} {e1 e2 : TypeId} {u v : Value} {xs ys : List Value} (h1 : w.ownsRow b1 e1 s1 u n1 xs) (h2 : w.ownsRow b2 e2 s2 v n2 ys) (he : e1 ≠ e2) : u.ownBlock = none ∨ u.ownBlock ≠ v.ownBlock := by
  rcases h1.2 with ⟨rfl, -⟩ | ⟨g, cap, cur, rfl, -, hg, -⟩
  · exact .inl rfl
  · rcases h2.2 with ⟨rfl, -⟩ | ⟨q, cap2, cur2, rfl, -, hq, -⟩
    · exact .inr (by simp [Value.ownBlock])
    · refine .inr fun e => ?_
      have e : g = q := by simpa [Value.ownBlock] using e
      subst e
      rw [hg] at hq
      injection hq with h1
      injection h1 with _ h2
      exact he h2

/-- A state's lists are owned: each lies in a block of its own, from lo to hi. -/
structure OwnSt (w : World) (lo hi : Nat) (d r m c v o i : Value) (S : S8) : Prop where
  top : ∀ x ∈ [d, r, m, c, v, o, i], ∀ k, x.ownBlock = some k → k < hi
  dm : d.ownBlock = none ∨ d.ownBlock ≠ m.ownBlock
  oi : o.ownBlock = none ∨ o.ownBlock ≠ i.ownBlock
  d : w.ownsRow lo 21 1 d S.data.length (S.data.map iv)
  r : w.ownsRow lo 58 2 r S.ret.length (slv S.ret)
  m : w.ownsRow lo 21 1 m S.mem.length (S.mem.map iv)
  c : w.ownsRow lo 95 1 c S.cells.length (S.cells.map u32v)
  v : w.ownsRow lo 3 1 v S.vars.length (S.vars.map lv)
  o : w.ownsRow lo 5 1 o S.out.length (S.out.map b8v)
  i : TailB w lo 5 i S.inp.length (S.inp.map b8v)
theorem totSt_small {S : S8} (h : totSt S ≤ 4000000) : S.data.length ≤ 4000000 ∧ S.ret.length ≤ 4000000 ∧ S.mem.length ≤ 4000000 ∧ S.cells.length ≤ 4000000 ∧ S.vars.length ≤ 4000000 ∧ S.out.length ≤ 4000000 ∧ S.inp.length ≤ 4000000 := by
  unfold totSt at h
  omega
section
variable {w w' : World} {lo hi : Nat} {d r m c v o i : Value} {S : S8}
theorem OwnSt.rd (h : OwnSt w lo hi d r m c v o i S) (hs : totSt S ≤ 4000000) : RdSt w d r m c v o i S := by
  obtain ⟨s1, s2, s3, s4, s5, s6, s7⟩ := totSt_small hs
  exact ⟨own_cap h.v, .of_own h.d (by omega), .of_own h.r (by omega), .of_own h.m (by omega), .of_own h.c (by omega), .of_own h.v (by omega), .of_own h.o (by omega), .of_tail h.i (by omega)⟩
theorem OwnSt.same (h : OwnSt w lo hi d r m c v o i S) (hb : ∀ k, lo ≤ k → k < hi → k < w.heap.size → w'.heap[k]? = w.heap[k]?) : OwnSt w' lo hi d r m c v o i S := by
  have K : ∀ {e : TypeId} {size n : Nat} {x : Value} {xs : List Value}, x ∈ [d, r, m, c, v, o, i] → w.ownsRow lo e size x n xs → w'.ownsRow lo e size x n xs := fun hx ho => own_same ho fun k hk => hb k (World.ownsRow.lt ho k hk).1 (h.top _ hx k hk) (World.ownsRow.lt ho k hk).2
  exact ⟨h.top, h.dm, h.oi, K (by simp) h.d, K (by simp) h.r, K (by simp) h.m, K (by simp) h.c, K (by simp) h.v, K (by simp) h.o, tail_same h.i fun k hk => hb k (h.i.lt k hk).1 (h.top _ (by simp) k hk) (h.i.lt k hk).2⟩
theorem OwnSt.below (h : OwnSt w lo hi d r m c v o i S) {B : Nat} (hb : Below B w w') (hB : hi ≤ B) : OwnSt w' lo hi d r m c v o i S := h.same fun k _ h2 _ => hb.block k (by omega)
theorem OwnSt.keep (h : OwnSt w lo hi d r m c v o i S) (hb : Below w.heap.size w w') : OwnSt w' lo hi d r m c v o i S := h.same fun k _ _ h3 => hb.block k h3
theorem OwnSt.kept (h : OwnSt w lo hi d r m c v o i S) {l2 h2 : Nat} (hk : Kept l2 h2 w w') (hd : hi ≤ l2 ∨ h2 ≤ lo) : OwnSt w' lo hi d r m c v o i S := h.same fun k h3 h4 h5 => hk.block k h5 (by omega)
theorem OwnSt.form (h : OwnSt w lo hi d r m c v o i S) (hs : totSt S ≤ 4000000) :
    (∃ A k, d = .slice A S.data.length k) ∧ (∃ A k, r = .slice A S.ret.length k) ∧ (∃ A k, m = .slice A S.mem.length k) ∧ (∃ A k, c = .slice A S.cells.length k) ∧ (∃ A k, v = .slice A S.vars.length k) ∧ (∃ A k, o = .slice A S.out.length k) ∧ (∃ A k, i = .slice A S.inp.length k) := (h.rd hs).form
theorem OwnSt.mono (h : OwnSt w lo hi d r m c v o i S) {l2 h2 : Nat} (hl : l2 ≤ lo) (hh : hi ≤ h2) : OwnSt w l2 h2 d r m c v o i S :=
  ⟨fun x hx k hk => Nat.lt_of_lt_of_le (h.top x hx k hk) hh, h.dm, h.oi, h.d.mono hl, h.r.mono hl, h.m.mono hl, h.c.mono hl, h.v.mono hl, h.o.mono hl, h.i.mono hl⟩
end
/-- A new state. -/
def NewSt (w : World) (S : S8) (e : Ending) (w' : World) : Prop :=
  ∃ d r m c v o i, e = .returned (.agg #[d, r, .int .i32 S.a, m, c, v, o, i, .int .i64 S.fault, .int .i64 S.fuel]) ∧ OwnSt w' w.heap.size w'.heap.size d r m c v o i S ∧ Below w.heap.size w w'
theorem st_cells2 {w : World} {g q : Nat} {t u : TypeId} {x0 x1 x2 x3 x4 x5 x6 x7 x8 x9 y0 y1 y2 y3 y4 y5 y6 y7 y8 y9 : Value} (k : Blk w g t #[x0, x1, x2, x3, x4, x5, x6, x7, x8, x9]) (l : Blk w q u #[y0, y1, y2, y3, y4, y5, y6, y7, y8, y9]) :
    w.cell? ⟨g, 0, none⟩ = some x0 ∧ w.cell? ⟨g, 1, none⟩ = some x1 ∧ w.cell? ⟨g, 2, none⟩ = some x2 ∧ w.cell? ⟨g, 3, none⟩ = some x3 ∧ w.cell? ⟨g, 4, none⟩ = some x4 ∧ w.cell? ⟨g, 5, none⟩ = some x5 ∧ w.cell? ⟨g, 6, none⟩ = some x6 ∧ w.cell? ⟨g, 7, none⟩ = some x7 ∧ w.cell? ⟨g, 8, none⟩ = some x8 ∧ w.cell? ⟨g, 9, none⟩ = some x9 ∧
    w.cell? ⟨q, 0, none⟩ = some y0 ∧ w.cell? ⟨q, 1, none⟩ = some y1 ∧ w.cell? ⟨q, 2, none⟩ = some y2 ∧ w.cell? ⟨q, 3, none⟩ = some y3 ∧ w.cell? ⟨q, 4, none⟩ = some y4 ∧ w.cell? ⟨q, 5, none⟩ = some y5 ∧ w.cell? ⟨q, 6, none⟩ = some y6 ∧ w.cell? ⟨q, 7, none⟩ = some y7 ∧ w.cell? ⟨q, 8, none⟩ = some y8 ∧ w.cell? ⟨q, 9, none⟩ = some y9 :=
  ⟨k.cell 0, k.cell 1, k.cell 2, k.cell 3, k.cell 4, k.cell 5, k.cell 6, k.cell 7, k.cell 8, k.cell 9, l.cell 0, l.cell 1, l.cell 2, l.cell 3, l.cell 4, l.cell 5, l.cell 6, l.cell 7, l.cell 8, l.cell 9⟩
/-- The ten cells of a state's box. -/
theorem st_cells {w : World} {g : Nat} {t : TypeId} {x0 x1 x2 x3 x4 x5 x6 x7 x8 x9 : Value} (k : Blk w g t #[x0, x1, x2, x3, x4, x5, x6, x7, x8, x9]) :
    w.cell? ⟨g, 0, none⟩ = some x0 ∧ w.cell? ⟨g, 1, none⟩ = some x1 ∧ w.cell? ⟨g, 2, none⟩ = some x2 ∧ w.cell? ⟨g, 3, none⟩ = some x3 ∧ w.cell? ⟨g, 4, none⟩ = some x4 ∧ w.cell? ⟨g, 5, none⟩ = some x5 ∧ w.cell? ⟨g, 6, none⟩ = some x6 ∧ w.cell? ⟨g, 7, none⟩ = some x7 ∧ w.cell? ⟨g, 8, none⟩ = some x8 ∧ w.cell? ⟨g, 9, none⟩ = some x9 :=
  ⟨k.cell 0, k.cell 1, k.cell 2, k.cell 3, k.cell 4, k.cell 5, k.cell 6, k.cell 7, k.cell 8, k.cell 9⟩

/-- A state with marks in its lists, from k on. -/
def markSt (S : S8) (k : Nat) : S8 :=
  { S with
    data := marksI k S.data.length
    ret := marksS (k + S.data.length) S.ret.length
    mem := marksI (k + S.data.length + 2 * S.ret.length) S.mem.length
    cells := marksN (k + S.data.length + 2 * S.ret.length + S.mem.length) S.cells.length
    vars := marksL (k + S.data.length + 2 * S.ret.length + S.mem.length + S.cells.length) S.vars.length
    out := marksB (k + S.data.length + 2 * S.ret.length + S.mem.length + S.cells.length + S.vars.length) S.out.length
    inp := marksB (k + S.data.length + 2 * S.ret.length + S.mem.length + S.cells.length + S.vars.length + S.out.length) S.inp.length }
theorem markSt_tot (S : S8) (k : Nat) : totSt (markSt S k) = totSt S := by simp only [totSt, markSt, marksI_len, marksS_len, marksN_len, marksL_len, marksB_len]
theorem apart_sym {u v : Value} (h : u.ownBlock = none ∨ u.ownBlock ≠ v.ownBlock) : v.ownBlock = none ∨ v.ownBlock ≠ u.ownBlock := by
  rcases h with h | h
  · cases hq : v.ownBlock with
    | none => exact .inl rfl
    | some k => exact .inr (by rw [h]; simp)
  · exact .inr fun e => h e.symm
theorem box_neG {W : World} {g base size : Nat} {t e : TypeId} {cs : Array Value} {v : Value} {n : Nat} {xs : List Value} (hk : Blk W g t cs) (ho : W.ownsRow base e size v n xs) (ht : t ≠ e) : some g ≠ v.ownBlock := by
  rcases ho.2 with ⟨rfl, -⟩ | ⟨q, cap, cur, rfl, -, hq, -⟩
  · simp [Value.ownBlock]
  · intro h
    have h : g = q := by simpa [Value.ownBlock] using h
    subst h
    unfold Blk at hk
    rw [hk] at hq
    injection hq with h1
    injection h1 with _ h2
    exact ht h2
/-- Seven rows of the sizes of a state's, whatever they hold. -/
structure Rows7 (w : World) (lo : Nat) (S : S8) (d r m c v o i : Value) (x0 : List Int) (x1 : List (Int × Int)) (x2 : List Int) (x3 : List Nat) (x4 : List Int) (x5 x6 : List Nat) : Prop where
  d : w.ownsRow lo 21 1 d S.data.length (x0.map iv)
  r : w.ownsRow lo 58 2 r S.ret.length (slv x1)
  m : w.ownsRow lo 21 1 m S.mem.length (x2.map iv)
  c : w.ownsRow lo 95 1 c S.cells.length (x3.map u32v)
  v : w.ownsRow lo 3 1 v S.vars.length (x4.map lv)
  o : w.ownsRow lo 5 1 o S.out.length (x5.map b8v)
  i : TailB w lo 5 i S.inp.length (x6.map b8v)
theorem Rows7.st {w : World} {lo hi : Nat} {S : S8} {k : Nat} {d r m c v o i : Value} (h : Rows7 w lo S d r m c v o i (markSt S k).data (markSt S k).ret (markSt S k).mem (markSt S k).cells (markSt S k).vars (markSt S k).out (markSt S k).inp)
    (top : ∀ x ∈ [d, r, m, c, v, o, i], ∀ k, x.ownBlock = some k → k < hi) (dm : d.ownBlock = none ∨ d.ownBlock ≠ m.ownBlock) (oi : o.ownBlock = none ∨ o.ownBlock ≠ i.ownBlock) : OwnSt w lo hi d r m c v o i (markSt S k) := by
  have e0 : (markSt S k).data.length = S.data.length := marksI_len _ _
  have e1 : (markSt S k).ret.length = S.ret.length := marksS_len _ _
  have e2 : (markSt S k).mem.length = S.mem.length := marksI_len _ _
  have e3 : (markSt S k).cells.length = S.cells.length := marksN_len _ _
  have e4 : (markSt S k).vars.length = S.vars.length := marksL_len _ _
  have e5 : (markSt S k).out.length = S.out.length := marksB_len _ _
  have e6 : (markSt S k).inp.length = S.inp.length := marksB_len _ _
  exact ⟨top, dm, oi, by rw [e0]; exact h.d, by rw [e1]; exact h.r, by rw [e2]; exact h.m, by rw [e3]; exact h.c, by rw [e4]; exact h.v, by rw [e5]; exact h.o, by rw [e6]; exact h.i⟩
end Go.Proofs.Ytmnfdbgiemappaa
