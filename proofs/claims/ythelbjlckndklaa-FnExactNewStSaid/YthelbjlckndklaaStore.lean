/-
  Stores as values; the laws' own helpers on stores.
-/
import Derived.Test.YthelbjlckndklaaToU
import Derived.Handy
import Derived.Deep.Onto
import Derived.Lib.SmallJoins
namespace Go.Proofs.Ythelbjlckndklaa
open Go.RowKit Go

abbrev stA (v : Value) : Value := .agg #[v]
/-- A new list of numbers, handed back as r tells. -/
def NewR (r : Value → Value) (w : World) (xs : List Nat) (e : Ending) (w' : World) : Prop := ∃ v, e = .returned (r v) ∧ w'.ownsRow w.heap.size 74 1 v xs.length (xs.map u32v) ∧ Below w.heap.size w w'
theorem RdN.form {w : World} {v : Value} {xs : List Nat} (h : RdN w v xs) : ∃ A cap, v = .slice A xs.length cap := by
  obtain ⟨A, cap, e, -⟩ := h
  exact ⟨A, cap, e⟩
/-- A slice's length is no more than its capacity. -/
def CapOk (v : Value) : Prop := ∀ A n c, v = .slice A n c → n ≤ c
theorem own_cap {w : World} {base : Nat} {e : TypeId} {v : Value} {n : Nat} {xs : List Value} (h : w.ownsRow base e 1 v n xs) : CapOk v := by
  intro A m c hv
  rcases h.2 with ⟨rfl, h0⟩ | ⟨g, cap, cur, rfl, hb, hg, hn, -⟩
  · injection hv with h1 h2 h3
    omega
  · injection hv with h1 h2 h3
    omega
theorem below_alloc (w : World) (o : Obj) : Below w.heap.size w (w.alloc o) := (Below.refl _ _).alloc (Nat.le_refl _) _
theorem below_alloc2 (w : World) (o1 o2 : Obj) : Below w.heap.size w ((w.alloc o1).alloc o2) := ((Below.refl _ _).alloc (Nat.le_refl _) _).alloc (by simp) _
theorem below_alloc3 (w : World) (o1 o2 o3 : Obj) : Below w.heap.size w (((w.alloc o1).alloc o2).alloc o3) := (((Below.refl _ _).alloc (Nat.le_refl _) _).alloc (by simp) _).alloc (by simp; omega) _
theorem own_below {w w' : World} {base B : Nat} {e : TypeId} {v : Value} {n : Nat} {xs : List Value} (h : w.ownsRow base e 1 v n xs) (hb : Below B w w') (hB : w.heap.size ≤ B) : w'.ownsRow base e 1 v n xs :=
  h.kept (row := none) ⟨hb.os, hb.tape, hb.output, hb.size, fun i hi _ => hb.block i (by omega)⟩ (by cases v.ownBlock <;> simp)
theorem own_form {w : World} {base : Nat} {e : TypeId} {v : Value} {n : Nat} {xs : List Value} (h : w.ownsRow base e 1 v n xs) : ∃ A cap, v = .slice A n cap := by
  rcases h.2 with ⟨rfl, h0⟩ | ⟨g, cap, cur, rfl, -⟩
  · exact ⟨none, 0, by rw [h0]⟩
  · exact ⟨_, _, rfl⟩
/-- What is owned, written out: the row's whole cells. -/
structure RowIs (w : World) (base : Nat) (e : TypeId) (g n cap : Nat) (cur xs : List Value) : Prop where
  base : base ≤ g
  row : w.heap[g]? = some (.cells cur.toArray e (0, 0))
  le : n ≤ cap
  max : cap ≤ maxLen
  len : cur.length = cap
  take : cur.take n = xs
theorem own_row {w : World} {base : Nat} {e : TypeId} {v : Value} {n : Nat} {xs : List Value} (h : w.ownsRow base e 1 v n xs) (hn : 0 < n) : ∃ g cap cur, v = .slice (some ⟨g, 0, none⟩) n cap ∧ RowIs w base e g n cap cur xs := by
  rcases h.2 with ⟨rfl, h0⟩ | ⟨g, cap, cur, rfl, hb, hg, hle, hm, hsz, ht⟩
  · omega
  · exact ⟨g, cap, cur.toList, rfl, hb, by simpa using hg, hle, hm, by simpa using hsz, by simpa using ht⟩
theorem RowIs.own {w : World} {base : Nat} {e : TypeId} {g n cap : Nat} {cur xs : List Value} (h : RowIs w base e g n cap cur xs) (hl : xs.length = n) : w.ownsRow base e 1 (.slice (some ⟨g, 0, none⟩) n cap) n xs :=
  ⟨by omega, .inr ⟨g, cap, cur.toArray, rfl, h.base, h.row, h.le, h.max, by simpa using h.len, by simpa using h.take⟩⟩
theorem RowIs.lt {w : World} {base : Nat} {e : TypeId} {g n cap : Nat} {cur xs : List Value} (h : RowIs w base e g n cap cur xs) : g < w.heap.size := (Array.getElem?_eq_some_iff.1 h.row).1
theorem own_full {w : World} {base : Nat} {e : TypeId} {g n : Nat} {xs : List Value} (h : w.ownsRow base e 1 (.slice (some ⟨g, 0, none⟩) n n) n xs) (hn : 0 < n) : w.heap[g]? = some (.cells xs.toArray e (0, 0)) := by
  obtain ⟨g2, cap, cur, hv, hr⟩ := own_row h hn
  injection hv with h1 h2 h3
  injection h1 with h1
  injection h1 with h1
  subst h1 h3
  have ht := hr.take
  rw [List.take_of_length_le (by rw [hr.len]; exact Nat.le_refl _)] at ht
  rw [← ht]
  exact hr.row
theorem own_of_full {w : World} {base : Nat} {e : TypeId} {g n : Nat} {xs : List Value} (h : w.heap[g]? = some (.cells xs.toArray e (0, 0))) (hl : xs.length = n) (hb : base ≤ g) (hm : n ≤ maxLen) : w.ownsRow base e 1 (.slice (some ⟨g, 0, none⟩) n n) n xs :=
  RowIs.own ⟨hb, h, Nat.le_refl _, hm, hl, List.take_of_length_le (by omega)⟩ hl
theorem own_put {w : World} {base : Nat} {e : TypeId} {v : Value} {n : Nat} {xs : List Value} (h : w.ownsRow base e 1 v n xs) {p : Addr} (hp : p.block < base) (u : Value) : (w.setCell p u).ownsRow base e 1 v n xs :=
  h.kept (row := some p.block) (only_setCell (World.grownBy.refl _ _) (.inl rfl) _) (.inr fun e => by have := own_lt h _ e; omega)
theorem boxes2 {w w1 : World} {cs1 cs2 : Array Value} {t1 t2 : TypeId} (hb : Below ((w.alloc (.cells cs1 t1)).alloc (.cells cs2 t2)).heap.size ((w.alloc (.cells cs1 t1)).alloc (.cells cs2 t2)) w1) :
    Blk w1 w.heap.size t1 cs1 ∧ Blk w1 (w.heap.size + 1) t2 cs2 ∧ Below w.heap.size w w1 ∧ w.heap.size + 2 ≤ w1.heap.size := by
  have e : (w.alloc (.cells cs1 t1)).heap.size = w.heap.size + 1 := by simp
  have h2 := (Blk.new (w.alloc (.cells cs1 t1)) t2 cs2).below hb (by simp)
  rw [e] at h2
  exact ⟨((Blk.new w t1 cs1).alloc (.cells cs2 t2)).below hb (by simp; omega), h2, (((Below.refl _ _).alloc (Nat.le_refl _) _).alloc (by simp) _).trans (hb.mono (by simp; omega)), by have := hb.size; simp at this; omega⟩
theorem boxes1 {w w1 : World} {cs1 : Array Value} {t1 : TypeId} (hb : Below (w.alloc (.cells cs1 t1)).heap.size (w.alloc (.cells cs1 t1)) w1) :
    Blk w1 w.heap.size t1 cs1 ∧ Below w.heap.size w w1 ∧ w.heap.size + 1 ≤ w1.heap.size :=
  ⟨(Blk.new w t1 cs1).below hb (by simp), ((Below.refl _ _).alloc (Nat.le_refl _) _).trans (hb.mono (by simp)), by have := hb.size; simp at this; omega⟩
theorem st_blk {w : World} {g : Nat} {t : TypeId} {v0 : Value} (h : Blk w g t #[v0]) (v : Value) : Blk (w.setCell ⟨g, 0, none⟩ v) g t #[v] := by
  have := h.put 0 v
  simpa using this

set_option maxHeartbeats 1000000 in
theorem tostore_any (v : Value) (xs : List Nat) (hx : xs.length ≤ 4194304) (w : World) (ha : RdN w v xs) : Calls Try.prog 13 #[stA v] w (NewR stA w xs) := by
  obtain ⟨A, cap, rfl⟩ := ha.form
  have HT := Lib.hid (tou_any _ xs hx _ (ha.below (below_alloc3 w (.cells #[.slice A xs.length cap] 38) (.cells #[.slice none 0 0] 41) (.cells #[.slice none 0 0] 41))))
  clear ha
  go_enter Try.func13, Try.ntmps13
  go_wp2_with fail
  refine HT.out.mono ?_
  rintro e w1 ⟨u, rfl, hown, hb⟩
  have k2 : Blk w1 (w.heap.size + 1) 41 #[.slice none 0 0] := by
    have := (((Blk.new (w.alloc (.cells #[.slice A xs.length cap] 38)) 41 #[.slice none 0 0]).alloc (.cells #[.slice none 0 0] 41)).below hb (by simp))
    simpa using this
  have k3 : Blk w1 (w.heap.size + 1 + 1) 41 #[.slice none 0 0] := by
    have := ((Blk.new ((w.alloc (.cells #[.slice A xs.length cap] 38)).alloc (.cells #[.slice none 0 0] 41)) 41 #[.slice none 0 0]).below hb (by simp))
    simpa using this
  have c2 : w1.cell? ⟨w.heap.size + 1, 0, none⟩ = some (.slice none 0 0) := k2.cell 0
  have c3 : w1.cell? ⟨w.heap.size + 1 + 1, 0, none⟩ = some (.slice none 0 0) := k3.cell 0
  have f2 := k2.frozen 0
  have f3 := k3.frozen 0
  have ho : w1.ownsRow (w.heap.size + 1 + 1 + 1) 74 1 u xs.length (xs.map u32v) := by simpa using hown
  have HB : Hid (Below w.heap.size w w1) := Lib.hid ((below_alloc3 w _ _ _).trans (hb.mono (by simp; omega)))
  have HO := Lib.hid ho
  have K2 := Lib.hid k2
  obtain ⟨B, d, rfl⟩ := own_form ho
  clear hown hb ho k2 k3 HT
  go_wp2_with fail
  have e0 : _ = some (Value.slice B xs.length d) := (st_blk (K2.out.far (p := ⟨w.heap.size + 1 + 1, 0, none⟩) (by simp) (.slice B xs.length d)) (.slice B xs.length d)).cell 0
  exact bodyPost_ret (v := stA (.slice B xs.length d)) (by simp [results, Try.results13, e0, go_sem]) rfl
    ⟨_, rfl, (own_put (own_put HO.out (by simp) _) (by simp) _).mono (by omega), (HB.out.setCell (by show w.heap.size ≤ w.heap.size + 1 + 1; omega) _).setCell (by simp) _⟩

set_option maxHeartbeats 1000000 in
theorem eqstore_any (a b : Value) (xs ys : List Nat) (w : World) (ha : RdN w a xs) (hb : RdN w b ys) :
    Calls Try.prog 16 #[stA a, stA b] w fun e w' => e = .returned (.bool (decide (xs = ys))) ∧ Below w.heap.size w w' := by
  obtain ⟨A, c, rfl⟩ := ha.form
  obtain ⟨B, d, rfl⟩ := hb.form
  have hbl := below_alloc2 w (.cells #[.slice A xs.length c] 41) (.cells #[.slice B ys.length d] 41)
  have HE := Lib.hid (eqn_any _ _ xs ys _ (ha.below hbl) (hb.below hbl))
  have HB := Lib.hid hbl
  clear ha hb hbl
  obtain ⟨q, hq⟩ : ∃ q, decide (xs = ys) = q := ⟨_, rfl⟩
  rw [hq] at HE ⊢
  clear hq
  go_enter Try.func16, Try.ntmps16
  go_wp2_with fail
  refine HE.out.mono ?_
  rintro e w1 ⟨rfl, n, hw⟩
  have HW : Hid (Below w.heap.size w w1) := Lib.hid (by rw [hw]; exact below_drewN HB.out n)
  clear hw HE HB
  cases q with
  | true =>
    go_wp2_with fail
    go_ret
    exact ⟨rfl, HW.out⟩
  | false =>
    go_wp2_with fail
    go_ret
    exact ⟨rfl, HW.out⟩

set_option maxHeartbeats 1000000 in
theorem markstore_any (base : Nat) (v : Value) (xs : List Nat) (k : Nat) (h1 : k ≤ 4194304) (hx : xs.length ≤ 4194304) (W : World) (hown : W.ownsRow base 74 1 v xs.length (xs.map u32v)) :
    Calls Try.prog 18 #[stA v, .int .i64 k] W fun e w' => e = .returned (.int .i64 ((k : Int) + xs.length)) ∧ w'.ownsRow base 74 1 v xs.length ((marksN k xs.length).map u32v) ∧ W.grownBy w' v.ownBlock := by
  obtain ⟨A, c, hv⟩ := own_form hown
  have HM := Lib.hid (markn_any base v xs k h1 hx _ (hown.alloc (.cells #[v] 41)))
  subst hv
  clear hown
  go_enter Try.func18, Try.ntmps18
  go_wp2_with fail
  refine HM.out.mono ?_
  rintro e w1 ⟨rfl, ho, hg⟩
  have HO := Lib.hid ho
  have HG := Lib.hid hg
  clear ho hg HM
  go_wp2_with fail
  go_ret
  exact ⟨rfl, HO.out, only_trans (World.grownBy_alloc W _ _) HG.out⟩

theorem szstore_fit (A : Option Addr) (n c : Nat) (left : Int) (hl : -1 ≤ left ∧ left ≤ 1048576) (hs : (n : Int) ≤ left) (w : World) :
    Calls Try.prog 11 #[stA (.slice A n c), .int .i64 left] w fun e w' => e = .returned (.int .i64 (left - (n : Int))) ∧ Below w.heap.size w w' := by
  have h2 : ¬ (left - (n : Int) < 0) := by omega
  go_enter Try.func11, Try.ntmps11
  go_wp2
  go_ret
  exact ⟨rfl, by go_grown⟩
theorem szstore_no (A : Option Addr) (n c : Nat) (left : Int) (hl : -1 ≤ left ∧ left ≤ 1048576) (hs : left < (n : Int)) (hm : n ≤ 9223372036854775807) (w : World) :
    Calls Try.prog 11 #[stA (.slice A n c), .int .i64 left] w fun e w' => e = .returned (.int .i64 (-1)) ∧ Below w.heap.size w w' := by
  have h2 : left - (n : Int) < 0 := by omega
  go_enter Try.func11, Try.ntmps11
  go_wp2
  go_ret
  exact ⟨rfl, by go_grown⟩
end Go.Proofs.Ythelbjlckndklaa
