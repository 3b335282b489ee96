/-
  The machine's steps on plain lists.
  A state that is stored; rows that are kept.
  Append as a law: onto a row of the call's own, from a list that can be read, nil or not; with a word on where the result lies.
  What becomes of a state whose rows are changed one by one.
-/
import Derived.Test.YtmnfdbgiemappaaST5
import Derived.Test.YtmnfdbgiemappaaST3
import Derived.Handy
import Derived.Test.YtmnfdbgiemappaaST1
import Derived.Deep.DeepAppendRoom
import Derived.Deep.AppendSrc
import Derived.OwnWalk
import Derived.Deep.Onto
namespace Go.Proofs.Ytmnfdbgiemappaa
open Go.RowKit Go

/-- What holds of all of a state's numbers. -/
structure RngM (S : S8) : Prop where
  data : ∀ x ∈ S.data, -2147483648 ≤ x ∧ x ≤ 2147483647
  ret : ∀ x ∈ S.ret, -2147483648 ≤ x.2 ∧ x.2 ≤ 2147483647
  a : -2147483648 ≤ S.a ∧ S.a ≤ 2147483647
  mem : ∀ x ∈ S.mem, -2147483648 ≤ x ∧ x ≤ 2147483647
  inp : ∀ x ∈ S.inp, x < 256
theorem RngM.rng {S : S8} (h : RngM S) : Rng8 S := ⟨h.data, h.inp⟩
theorem wrap32_range (x : Int) : -2147483648 ≤ wrap32 x ∧ wrap32 x ≤ 2147483647 := by unfold wrap32; omega
theorem wrap32_in {x : Int} (h : -2147483648 ≤ x ∧ x ≤ 2147483647) : wrap32 x = x := by unfold wrap32; omega
theorem bits_range (o : BinOp) (x y : Int) : -2147483648 ≤ bits o .i32 x y ∧ bits o .i32 x y ≤ 2147483647 := by
  unfold bits
  simp only [IntKind.wrap_i32]
  omega
theorem RngM.take {S : S8} (h : RngM S) (n : Nat) : ∀ x ∈ S.data.take n, -2147483648 ≤ x ∧ x ≤ 2147483647 := fun x hx => h.data x (List.mem_of_mem_take hx)
theorem RngM.drop {S : S8} (h : RngM S) (t : Nat) : RngM (drop8 S t) := ⟨h.take _, h.ret, h.a, h.mem, h.inp⟩
theorem rng_put {R T : S8} {t : Nat} {l : List Int} (h : RngM R) (hp : put8 R t l = .inr T) (hl : ∀ x ∈ l, -2147483648 ≤ x ∧ x ≤ 2147483647) : RngM T := by
  unfold put8 at hp
  split at hp
  · cases hp
  · injection hp with hp
    subst hp
    refine ⟨fun x hx => ?_, h.ret, h.a, h.mem, h.inp⟩
    rcases List.mem_append.1 hx with hx | hx
    · exact h.take _ x hx
    · exact hl x hx
theorem rng_say {S T : S8} {b : List Nat} (h : RngM S) (hp : say8 S b = .inr T) : RngM T := by
  unfold say8 at hp
  split at hp
  · cases hp
  · injection hp with hp
    subst hp
    exact ⟨h.take _, h.ret, h.a, h.mem, h.inp⟩
theorem rng_getD {l : List Int} (h : ∀ x ∈ l, -2147483648 ≤ x ∧ x ≤ 2147483647) (i : Nat) : -2147483648 ≤ l.getD i 0 ∧ l.getD i 0 ≤ 2147483647 := by
  unfold List.getD
  cases hq : l[i]? with
  | none => simp
  | some x => exact h x (List.mem_of_getElem? hq)
theorem rng1 {z : Int} (h : -2147483648 ≤ z ∧ z ≤ 2147483647) : ∀ x ∈ [z], -2147483648 ≤ x ∧ x ≤ 2147483647 := fun x hx => by
  rw [List.mem_singleton] at hx
  subst hx
  exact h
theorem rng_pure (k : Nat) {x y : Int} (hx : -2147483648 ≤ x ∧ x ≤ 2147483647) (hy : -2147483648 ≤ y ∧ y ≤ 2147483647) : ∀ z ∈ pure8 k x y, -2147483648 ≤ z ∧ z ≤ 2147483647 := by
  intro z hz
  unfold pure8 at hz
  split at hz <;> simp only [List.mem_cons, List.not_mem_nil, or_false] at hz
  · rcases hz with rfl | rfl <;> exact hy
  · rcases hz with rfl | rfl | rfl
    · exact hx
    · exact hy
    · exact hx
  · subst hz; exact hy
  · rcases hz with rfl | rfl
    · exact hy
    · exact hx
  · subst hz; exact wrap32_range _
  · subst hz; omega
  · subst hz; exact wrap32_range _
  · subst hz; exact bits_range _ _ _
  · subst hz; exact bits_range _ _ _
  · subst hz; exact wrap32_range _
  · subst hz; omega
theorem tmod_range {x y : Int} (hx : -2147483648 ≤ x ∧ x ≤ 2147483647) : -2147483648 ≤ x.tmod y ∧ x.tmod y ≤ 2147483647 := by
  have h0 : (x.tmod y).natAbs ≤ x.natAbs := by rw [Int.natAbs_tmod]; exact Nat.mod_le _ _
  rcases Int.le_total 0 x with h | h
  · have h1 := Int.tmod_nonneg y h
    omega
  · have h1 := Int.tmod_nonneg y (show 0 ≤ -x by omega)
    rw [Int.neg_tmod] at h1
    omega
theorem last_mem {α : Type} {l : List α} {t : α} (h : l.getLast? = some t) : t ∈ l := List.mem_of_getLast? h
theorem prim_rng {k : Nat} {S T : S8} {x y : Int} (h : RngM S) (hx : -2147483648 ≤ x ∧ x ≤ 2147483647) (hy : -2147483648 ≤ y ∧ y ≤ 2147483647) (hp : prim8 k S x y = .inr T) : RngM T := by
  unfold prim8 at hp
  split at hp
  · split at hp
    · cases hp
    · refine rng_put h hp fun z hz => ?_
      simp at hz
      rcases hz with rfl | rfl
      · exact tmod_range hx
      · exact wrap32_range _
  · split at hp
    · exact rng_put h hp (rng1 (rng_getD h.mem _))
    · split at hp
      · exact rng_put h hp (rng1 (wrap32_range _))
      · cases hp
  · split at hp
    · injection hp with hp
      subst hp
      refine ⟨h.take _, h.ret, h.a, fun z hz => ?_, h.inp⟩
      rcases List.mem_or_eq_of_mem_set hz with hz | rfl
      · exact h.mem z hz
      · exact hx
    · split at hp
      · injection hp with hp
        subst hp
        exact ⟨h.take _, h.ret, h.a, h.mem, h.inp⟩
      · cases hp
  · exact rng_put h hp (rng1 h.a)
  · injection hp with hp
    subst hp
    exact ⟨h.take _, h.ret, hy, h.mem, h.inp⟩
  · exact rng_say h hp
  · split at hp
    · exact rng_put h hp (rng1 (by omega))
    · rename_i b r hi
      have hb : ∀ z ∈ b :: r, z < 256 := by rw [← hi]; exact h.inp
      have h1 := hb b (by simp)
      exact rng_put (R := { S with inp := r }) ⟨h.data, h.ret, h.a, h.mem, fun z hz => hb z (List.mem_cons_of_mem _ hz)⟩ hp (rng1 (by omega))
  · split at hp
    · cases hp
    · injection hp with hp
      subst hp
      refine ⟨h.take _, fun z hz => ?_, h.a, h.mem, h.inp⟩
      rcases List.mem_append.1 hz with hz | hz
      · exact h.ret z hz
      · simp at hz; subst hz; exact hy
  · split at hp
    · cases hp
    · rename_i t ht
      have hm := h.ret t (last_mem ht)
      split at hp
      · exact rng_put (R := { S with ret := S.ret.dropLast }) ⟨h.data, fun z hz => h.ret z (List.dropLast_subset _ hz), h.a, h.mem, h.inp⟩ hp (rng1 hm)
      · cases hp
  · split at hp
    · cases hp
    · rename_i t ht
      have hm := h.ret t (last_mem ht)
      split at hp
      · cases hp
      · exact rng_put h hp (rng1 hm)
  · exact rng_say h hp
  · exact rng_put h hp (rng_pure _ hx hy)
theorem word_rng {S T : S8} {k : Int} (h : RngM S) (hw : word8 S k = .inr T) : RngM T := by
  unfold word8 at hw
  split at hw
  · cases hw
  · split at hw
    · cases hw
    · exact prim_rng h (h.rng.top 1) (h.rng.top 0) hw
theorem word_keeps {S T : S8} {k : Int} (h : Ok8 S) (hw : word8 S k = .inr T) : Keeps S T := by
  unfold word8 at hw
  split at hw
  · cases hw
  · split at hw
    · cases hw
    · exact prim_keeps h hw
theorem word_flt {S : S8} {k f : Int} (hw : word8 S k = .inl f) : 1 ≤ f ∧ f ≤ 13 := by
  have hput : ∀ {R : S8} {t : Nat} {l : List Int}, put8 R t l = .inl f → 1 ≤ f ∧ f ≤ 13 := fun h => by
    unfold put8 at h
    split at h
    · injection h with h; omega
    · cases h
  have hsay : ∀ {R : S8} {l : List Nat}, say8 R l = .inl f → 1 ≤ f ∧ f ≤ 13 := fun h => by
    unfold say8 at h
    split at h
    · injection h with h; omega
    · cases h
  unfold word8 at hw
  split at hw
  · injection hw with hw; omega
  · split at hw
    · injection hw with hw; omega
    · unfold prim8 at hw
      split at hw
      · split at hw
        · injection hw with hw; omega
        · exact hput hw
      · split at hw
        · exact hput hw
        · split at hw
          · exact hput hw
          · injection hw with hw; omega
      · split at hw
        · cases hw
        · split at hw
          · cases hw
          · injection hw with hw; omega
      · exact hput hw
      · cases hw
      · exact hsay hw
      · split at hw
        · exact hput hw
        · exact hput hw
      · split at hw
        · injection hw with hw; omega
        · cases hw
      · split at hw
        · injection hw with hw; omega
        · split at hw
          · exact hput hw
          · injection hw with hw; omega
      · split at hw
        · injection hw with hw; omega
        · split at hw
          · injection hw with hw; omega
          · exact hput hw
      · exact hsay hw
      · exact hput hw
/-- A slot is put on Ret. -/
def putR8 (S : S8) (k n : Int) : Int ⊕ S8 := if S.ret.length = 24 then .inl 3 else .inr { S with ret := S.ret ++ [(k, n)] }
/-- A count begins. -/
def for8 (S : S8) : Int ⊕ S8 := if S.data.length = 0 then .inl 2 else if S.ret.length = 24 then .inl 3 else .inr { drop8 S 1 with ret := S.ret ++ [(1, top8 S 0)] }
/-- A count goes on, or ends. -/
def count8 (S : S8) : Int ⊕ S8 :=
  match S.ret.getLast? with
  | none => .inl 3
  | some t => if t.1 = 1 then (if 0 < wrap32 (t.2 - 1) then .inr { S with ret := S.ret.dropLast ++ [(1, wrap32 (t.2 - 1))] } else .inr { S with ret := S.ret.dropLast }) else .inl 11
/-- A definition is left. -/
def leave8 (S : S8) : Int ⊕ S8 :=
  match S.ret.getLast? with
  | none => .inl 11
  | some t => if t.1 = 2 then .inr { S with ret := S.ret.dropLast } else .inl 11
/-- A machine: its state, its place, whether it is done. -/
abbrev M8 : Type := S8 × Int × Bool
def at8 (r : Int ⊕ S8) (q : Int) : Int ⊕ M8 :=
  match r with
  | .inl f => .inl f
  | .inr T => .inr (T, q, false)
/-- The top of Ret, as a place. -/
def back8 (S : S8) : Int := (S.ret.getLast?.getD (0, 0)).2
/-- What a step that isn't an end makes of a state whose fuel has been taken. -/
def act8 (n : Int) (S : S8) (p : Int) (o : Int × Int) : Int ⊕ M8 :=
  if o.1 = 0 then at8 (put8 S 0 [wrap32 o.2]) (p + 1)
  else if o.1 = 1 then at8 (word8 S o.2) (p + 1)
  else if o.1 = 2 then at8 (putR8 S 2 (wrap32 (p + 1))) o.2
  else if o.1 = 3 then .inr (S, o.2, false)
  else if o.1 = 6 then at8 (for8 S) (p + 1)
  else if o.1 = 7 then at8 (count8 S) (if S.ret.length = (fin8 S (count8 S)).ret.length then o.2 else p + 1)
  else if o.1 = 8 then (match leave8 S with
    | .inl f => .inl f
    | .inr T => if back8 S = -1 then .inr (T, p, true) else if 0 ≤ back8 S ∧ back8 S < n then .inr (T, back8 S, false) else .inl 11)
  else if S.data.length = 0 then .inl 2
  else .inr (S, (if (o.1 = 4 ∧ top8 S 0 = 0) ∨ (o.1 = 5 ∧ 0 ≤ top8 S 0) then o.2 else p + 1), false)
/-- The state whose fuel has been taken. -/
def burn8 (S : S8) : S8 := { S with fuel := S.fuel - 1 }
/-- A step of a machine that goes on. -/
def step8 (code : List (Int × Int)) (m : M8) : M8 :=
  if (code.getD m.2.1.toNat (0, 0)).1 = 9 then ({ m.1 with fault := 10 }, m.2.1, false)
  else if m.1.fuel = 0 then ({ m.1 with fault := 6 }, m.2.1, false)
  else match act8 code.length (burn8 m.1) m.2.1 (code.getD m.2.1.toNat (0, 0)) with
    | .inl f => ({ burn8 m.1 with fault := f }, m.2.1, false)
    | .inr r => r
/-- A machine that doesn't go on. -/
def halt8 (m : M8) : Bool := m.2.2 || decide (m.1.fault ≠ 0)
def run8 (code : List (Int × Int)) : Nat → M8 → M8
  | 0, m => m
  | k + 1, m => if halt8 m = true then m else run8 code k (step8 code m)
def deep8 (code : List (Int × Int)) : Nat → M8 → Nat → Nat
  | 0, _, d => d
  | k + 1, m, d => if halt8 m = true then d else deep8 code k (step8 code m) (max d (step8 code m).1.ret.length)
/-- A machine that can be on that code. -/
def canBe (code : List (Int × Int)) (p : Int) (S : S8) : Bool := codeOk code && (decide (0 ≤ p ∧ p < (code.length : Int)) && ok8 S)
def start8 (code : List (Int × Int)) (p : Int) (S : S8) : M8 := if canBe code p S = true ∧ S.fault = 0 then (fin8 S (putR8 S 2 (-1)), p, false) else (zero8, 0, false)
def tick8 (code : List (Int × Int)) (m : M8) : M8 := if canBe code m.2.1 m.1 = true then (if halt8 m = true then m else step8 code m) else (zero8, 0, false)
def play8 (code : List (Int × Int)) (p : Int) (S : S8) : S8 := if canBe code p S = true ∧ S.fault = 0 then (run8 code 4001 (start8 code p S)).1 else zero8
def deepest8 (code : List (Int × Int)) (p : Int) (S : S8) : Nat := if canBe code p S = true ∧ S.fault = 0 then deep8 code 4001 (start8 code p S) (start8 code p S).1.ret.length else 0
/-- What holds of a machine on code. -/
structure OkM (code : List (Int × Int)) (m : M8) : Prop where
  cok : codeOk code = true
  place : 0 ≤ m.2.1 ∧ m.2.1 < (code.length : Int)
  ok : Ok8 m.1
  rng : RngM m.1
theorem canBe_iff {code : List (Int × Int)} {p : Int} {S : S8} : canBe code p S = true ↔ codeOk code = true ∧ (0 ≤ p ∧ p < (code.length : Int)) ∧ ok8 S = true := by
  unfold canBe
  rw [Bool.and_eq_true, Bool.and_eq_true, decide_eq_true_eq]
theorem Ok8.flt {S : S8} (h : Ok8 S) {f : Int} (hf : 0 ≤ f ∧ f ≤ 13) : Ok8 { S with fault := f } := ⟨h.data, h.ret, h.mem, h.vars, h.out, h.inp, h.kinds, h.places, h.store, hf, h.fuel⟩
theorem Ok8.burn {S : S8} (h : Ok8 S) (h0 : S.fuel ≠ 0) : Ok8 (burn8 S) := ⟨h.data, h.ret, h.mem, h.vars, h.out, h.inp, h.kinds, h.places, h.store, h.fault, by have := h.fuel; show 0 ≤ S.fuel - 1 ∧ S.fuel - 1 ≤ 4000; omega⟩
theorem RngM.flt {S : S8} (h : RngM S) (f : Int) : RngM { S with fault := f } := ⟨h.data, h.ret, h.a, h.mem, h.inp⟩
theorem RngM.burn {S : S8} (h : RngM S) : RngM (burn8 S) := ⟨h.data, h.ret, h.a, h.mem, h.inp⟩
theorem Ok8.setRet {S : S8} (h : Ok8 S) {r : List (Int × Int)} (h1 : r.length ≤ 24) (h2 : kindsB r = true) : Ok8 { S with ret := r } := ⟨h.data, h1, h.mem, h.vars, h.out, h.inp, h2, h.places, h.store, h.fault, h.fuel⟩
/-- What a part of a step must leave: a fault that is one, or a right state with the same fuel and no other fault. -/
def Good (S : S8) (r : Int ⊕ S8) : Prop :=
  match r with
  | .inl f => 1 ≤ f ∧ f ≤ 13
  | .inr T => Ok8 T ∧ RngM T ∧ T.fault = S.fault ∧ T.fuel = S.fuel
theorem good_put {S : S8} (h : Ok8 S) (hr : RngM S) {t : Nat} {l : List Int} (hl : ∀ x ∈ l, -2147483648 ≤ x ∧ x ≤ 2147483647) (h3 : l.length ≤ 3) (ht : t ≤ 2) : Good S (put8 S t l) := by
  cases hp : put8 S t l with
  | inl f =>
    unfold put8 at hp
    split at hp
    · injection hp with hp; subst hp; exact ⟨by omega, by omega⟩
    · cases hp
  | inr T =>
    have k := keeps_put0 h hp ht h3
    exact ⟨k.ok h, rng_put hr hp hl, k.fault, k.fuel⟩
theorem good_word {S : S8} (h : Ok8 S) (hr : RngM S) (k : Int) : Good S (word8 S k) := by
  cases hw : word8 S k with
  | inl f => exact word_flt hw
  | inr T =>
    have hk := word_keeps h hw
    exact ⟨hk.ok h, word_rng hr hw, hk.fault, hk.fuel⟩
theorem good_ret {S : S8} (h : Ok8 S) (hr : RngM S) {k n : Int} (hk : 0 ≤ k ∧ k ≤ 2) (hn : -2147483648 ≤ n ∧ n ≤ 2147483647) : Good S (putR8 S k n) := by
  unfold putR8
  by_cases h24 : S.ret.length = 24
  · rw [if_pos h24]; exact ⟨by omega, by omega⟩
  · rw [if_neg h24]
    refine ⟨h.setRet (by have := h.ret; simp; omega) (kinds_app h.kinds hk), ⟨hr.data, fun x hx => ?_, hr.a, hr.mem, hr.inp⟩, rfl, rfl⟩
    rcases List.mem_append.1 hx with hx | hx
    · exact hr.ret x hx
    · rw [List.mem_singleton] at hx; subst hx; exact hn
theorem good_for {S : S8} (h : Ok8 S) (hr : RngM S) : Good S (for8 S) := by
  unfold for8
  by_cases h0 : S.data.length = 0
  · rw [if_pos h0]; exact ⟨by omega, by omega⟩
  rw [if_neg h0]
  by_cases h24 : S.ret.length = 24
  · rw [if_pos h24]; exact ⟨by omega, by omega⟩
  rw [if_neg h24]
  have hd : (drop8 S 1).data.length ≤ 16 := by have := h.data; show (S.data.take _).length ≤ 16; rw [List.length_take]; omega
  refine ⟨(h.setData hd).setRet (by have := h.ret; simp; omega) (kinds_app h.kinds ⟨by show (0 : Int) ≤ 1; omega, by show (1 : Int) ≤ 2; omega⟩), ⟨hr.take _, fun x hx => ?_, hr.a, hr.mem, hr.inp⟩, rfl, rfl⟩
  rcases List.mem_append.1 hx with hx | hx
  · exact hr.ret x hx
  · rw [List.mem_singleton] at hx; subst hx; exact hr.rng.top 0
theorem good_drop {S : S8} (h : Ok8 S) (hr : RngM S) : Ok8 { S with ret := S.ret.dropLast } ∧ RngM { S with ret := S.ret.dropLast } :=
  ⟨h.setRet (by have := h.ret; simp; omega) (kinds_drop h.kinds), ⟨hr.data, fun x hx => hr.ret x (List.dropLast_subset _ hx), hr.a, hr.mem, hr.inp⟩⟩
theorem good_count {S : S8} (h : Ok8 S) (hr : RngM S) : Good S (count8 S) := by
  unfold count8
  cases hl : S.ret.getLast? with
  | none => exact ⟨by omega, by omega⟩
  | some t =>
    show Good S (if t.1 = 1 then _ else _)
    obtain ⟨k1, k2⟩ := good_drop h hr
    by_cases h1 : t.1 = 1
    · rw [if_pos h1]
      by_cases h2 : 0 < wrap32 (t.2 - 1)
      · rw [if_pos h2]
        refine ⟨h.setRet (by have := h.ret; have h9 : 0 < S.ret.length := List.length_pos_of_mem (last_mem hl); simp; omega) (kinds_app k1.kinds ⟨by show (0 : Int) ≤ 1; omega, by show (1 : Int) ≤ 2; omega⟩), ⟨hr.data, fun x hx => ?_, hr.a, hr.mem, hr.inp⟩, rfl, rfl⟩
        rcases List.mem_append.1 hx with hx | hx
        · exact k2.ret x hx
        · rw [List.mem_singleton] at hx; subst hx; exact wrap32_range _
      · rw [if_neg h2]
        exact ⟨k1, k2, rfl, rfl⟩
    · rw [if_neg h1]; exact ⟨by omega, by omega⟩
theorem good_leave {S : S8} (h : Ok8 S) (hr : RngM S) : Good S (leave8 S) := by
  unfold leave8
  cases hl : S.ret.getLast? with
  | none => exact ⟨by omega, by omega⟩
  | some t =>
    show Good S (if t.1 = 2 then _ else _)
    obtain ⟨k1, k2⟩ := good_drop h hr
    by_cases h1 : t.1 = 2
    · rw [if_pos h1]; exact ⟨k1, k2, rfl, rfl⟩
    · rw [if_neg h1]; exact ⟨by omega, by omega⟩
def GoodM (n : Int) (S : S8) (r : Int ⊕ M8) : Prop :=
  match r with
  | .inl f => 1 ≤ f ∧ f ≤ 13
  | .inr m => Ok8 m.1 ∧ RngM m.1 ∧ m.1.fault = S.fault ∧ m.1.fuel = S.fuel ∧ 0 ≤ m.2.1 ∧ m.2.1 < n
theorem good_at {n : Int} {S : S8} {r : Int ⊕ S8} (h : Good S r) {q : Int} (hq : 0 ≤ q ∧ q < n) : GoodM n S (at8 r q) := by
  cases r with
  | inl f => exact h
  | inr T => exact ⟨h.1, h.2.1, h.2.2.1, h.2.2.2, hq⟩
theorem good_act {n : Int} {S : S8} {p : Int} {o : Int × Int} (h : Ok8 S) (hr : RngM S) (hp : 0 ≤ p ∧ p + 1 < n) (ho : okIn n o = true) (h9 : o.1 ≠ 9) : GoodM n S (act8 n S p o) := by
  unfold okIn at ho
  unfold act8
  split at ho
  · rename_i e
    rw [if_pos e]
    exact good_at (good_put h hr (rng1 (wrap32_range _)) (by simp) (by omega)) (by omega)
  rename_i e0
  rw [if_neg e0]
  split at ho
  · rename_i e
    rw [if_pos e]
    exact good_at (good_word h hr _) (by omega)
  rename_i e1
  rw [if_neg e1]
  split at ho
  · rename_i e
    have hq := of_decide_eq_true ho
    split
    · exact good_at (good_ret h hr (by omega) (wrap32_range _)) hq
    split
    · exact ⟨h, hr, rfl, rfl, hq⟩
    split
    · omega
    split
    · exact good_at (good_count h hr) (by split <;> omega)
    split
    · omega
    split
    · exact ⟨by omega, by omega⟩
    · refine ⟨h, hr, rfl, rfl, ?_, ?_⟩ <;> (dsimp only; split <;> omega)
  rename_i e2
  split at ho
  · rename_i e3
    rw [if_neg (by omega), if_neg (by omega)]
    split
    · exact good_at (good_for h hr) (by omega)
    rw [if_neg (by omega), if_pos (by omega)]
    have hl := good_leave h hr
    cases hh : leave8 S with
    | inl f => rw [hh] at hl; exact hl
    | inr T =>
      rw [hh] at hl
      show GoodM n S (if back8 S = -1 then _ else _)
      split
      · exact ⟨hl.1, hl.2.1, hl.2.2.1, hl.2.2.2, by show 0 ≤ p; omega, by show p < n; omega⟩
      split
      · rename_i hb
        exact ⟨hl.1, hl.2.1, hl.2.2.1, hl.2.2.2, hb⟩
      · exact ⟨by omega, by omega⟩
  · cases ho
theorem code_at {code : List (Int × Int)} {p : Int} (h : codeOk code = true) (hp : 0 ≤ p ∧ p < (code.length : Int)) : okIn code.length (code.getD p.toNat (0, 0)) = true ∧ ((code.getD p.toNat (0, 0)).1 ≠ 9 → p + 1 < (code.length : Int)) := by
  obtain ⟨h1, h2, h3⟩ := codeOk_parts h
  have hlt : p.toNat < code.length := by omega
  have e : code.getD p.toNat (0, 0) = code[p.toNat] := by rw [List.getD, List.getElem?_eq_getElem hlt]; rfl
  rw [e]
  refine ⟨h3 _ (List.getElem_mem hlt), fun h9 => ?_⟩
  by_cases hq : p + 1 < (code.length : Int)
  · exact hq
  · exfalso
    have e2 : code.length - 1 = p.toNat := by omega
    rw [e2, List.getElem?_eq_getElem hlt] at h2
    exact h9 h2
/-- A step leaves a machine that is right; its fuel is one less, or it has a fault. -/
theorem OkM.step {code : List (Int × Int)} {m : M8} (h : OkM code m) (hh : halt8 m = false) : OkM code (step8 code m) ∧ ((step8 code m).1.fault = 0 → (step8 code m).1.fuel = m.1.fuel - 1 ∧ m.1.fuel ≠ 0) := by
  have hf : m.1.fault = 0 := by
    unfold halt8 at hh
    rw [Bool.or_eq_false_iff, decide_eq_false_iff_not] at hh
    exact Decidable.of_not_not hh.2
  obtain ⟨c1, c2⟩ := code_at h.cok h.place
  unfold step8
  by_cases h9 : (code.getD m.2.1.toNat (0, 0)).1 = 9
  · rw [if_pos h9]
    exact ⟨⟨h.cok, h.place, h.ok.flt ⟨by omega, by omega⟩, h.rng.flt _⟩, fun e => absurd e (by show ¬ ((10 : Int) = 0); omega)⟩
  rw [if_neg h9]
  by_cases h0 : m.1.fuel = 0
  · rw [if_pos h0]
    exact ⟨⟨h.cok, h.place, h.ok.flt ⟨by omega, by omega⟩, h.rng.flt _⟩, fun e => absurd e (by show ¬ ((6 : Int) = 0); omega)⟩
  rw [if_neg h0]
  have hg := good_act (n := code.length) (h.ok.burn h0) h.rng.burn ⟨h.place.1, c2 h9⟩ c1 h9
  cases ha : act8 code.length (burn8 m.1) m.2.1 (code.getD m.2.1.toNat (0, 0)) with
  | inl f =>
    rw [ha] at hg
    exact ⟨⟨h.cok, h.place, (h.ok.burn h0).flt ⟨by have := hg.1; omega, hg.2⟩, h.rng.burn.flt _⟩, fun e => absurd e (by have := hg.1; show ¬ (f = 0); omega)⟩
  | inr r =>
    rw [ha] at hg
    exact ⟨⟨h.cok, hg.2.2.2.2, hg.1, hg.2.1⟩, fun _ => ⟨hg.2.2.2.1, h0⟩⟩
theorem run_halt {code : List (Int × Int)} {m : M8} (h : halt8 m = true) (k : Nat) : run8 code k m = m := by
  cases k with
  | zero => rfl
  | succ k => show (if halt8 m = true then m else _) = m; rw [if_pos h]
theorem deep_halt {code : List (Int × Int)} {m : M8} (h : halt8 m = true) (k d : Nat) : deep8 code k m d = d := by
  cases k with
  | zero => rfl
  | succ k => show (if halt8 m = true then d else _) = d; rw [if_pos h]
/-- A run goes on from the next step with as many rounds as the fuel allows. -/
theorem run_next {code : List (Int × Int)} {m : M8} (h : OkM code m) (hh : halt8 m = false) : run8 code (m.1.fuel.toNat + 1) m = run8 code ((step8 code m).1.fuel.toNat + 1) (step8 code m) := by
  show (if halt8 m = true then m else run8 code m.1.fuel.toNat (step8 code m)) = _
  rw [if_neg (by rw [hh]; decide)]
  by_cases hs : halt8 (step8 code m) = true
  · rw [run_halt hs, run_halt hs]
  · have hf : (step8 code m).1.fault = 0 := by
      have hs := Bool.eq_false_iff.2 hs
      unfold halt8 at hs
      rw [Bool.or_eq_false_iff, decide_eq_false_iff_not] at hs
      exact Decidable.of_not_not hs.2
    have h2 := (h.step hh).2 hf
    have h3 := h.ok.fuel
    rw [show m.1.fuel.toNat = (step8 code m).1.fuel.toNat + 1 by omega]
theorem deep_next {code : List (Int × Int)} {m : M8} (h : OkM code m) (hh : halt8 m = false) (d : Nat) : deep8 code (m.1.fuel.toNat + 1) m d = deep8 code ((step8 code m).1.fuel.toNat + 1) (step8 code m) (max d (step8 code m).1.ret.length) := by
  show (if halt8 m = true then d else deep8 code m.1.fuel.toNat (step8 code m) _) = _
  rw [if_neg (by rw [hh]; decide)]
  by_cases hs : halt8 (step8 code m) = true
  · rw [deep_halt hs, deep_halt hs]
  · have hf : (step8 code m).1.fault = 0 := by
      have hs := Bool.eq_false_iff.2 hs
      unfold halt8 at hs
      rw [Bool.or_eq_false_iff, decide_eq_false_iff_not] at hs
      exact Decidable.of_not_not hs.2
    have h2 := (h.step hh).2 hf
    have h3 := h.ok.fuel
    rw [show m.1.fuel.toNat = (step8 code m).1.fuel.toNat + 1 by omega]
/-- As many rounds as the fuel allows, or more. -/
theorem run_more {code : List (Int × Int)} {m : M8} (h : OkM code m) (k : Nat) (hk : m.1.fuel.toNat + 1 ≤ k) : run8 code k m = run8 code (m.1.fuel.toNat + 1) m := by
  induction k generalizing m with
  | zero => omega
  | succ k ih =>
    by_cases hh : halt8 m = true
    · rw [run_halt hh, run_halt hh]
    · have hb := Bool.eq_false_iff.2 hh
      rw [run_next h hb]
      show (if halt8 m = true then m else run8 code k (step8 code m)) = _
      rw [if_neg hh]
      by_cases hs : halt8 (step8 code m) = true
      · rw [run_halt hs, run_halt hs]
      · have hf : (step8 code m).1.fault = 0 := by
          have hs := Bool.eq_false_iff.2 hs
          unfold halt8 at hs
          rw [Bool.or_eq_false_iff, decide_eq_false_iff_not] at hs
          exact Decidable.of_not_not hs.2
        have h2 := (h.step hb).2 hf
        have h3 := h.ok.fuel
        exact ih (h.step hb).1 (by omega)
theorem deep_more {code : List (Int × Int)} {m : M8} (h : OkM code m) (k d : Nat) (hk : m.1.fuel.toNat + 1 ≤ k) : deep8 code k m d = deep8 code (m.1.fuel.toNat + 1) m d := by
  induction k generalizing m d with
  | zero => omega
  | succ k ih =>
    by_cases hh : halt8 m = true
    · rw [deep_halt hh, deep_halt hh]
    · have hb := Bool.eq_false_iff.2 hh
      rw [deep_next h hb]
      show (if halt8 m = true then d else deep8 code k (step8 code m) _) = _
      rw [if_neg hh]
      by_cases hs : halt8 (step8 code m) = true
      · rw [deep_halt hs, deep_halt hs]
      · have hf : (step8 code m).1.fault = 0 := by
          have hs := Bool.eq_false_iff.2 hs
          unfold halt8 at hs
          rw [Bool.or_eq_false_iff, decide_eq_false_iff_not] at hs
          exact Decidable.of_not_not hs.2
        have h2 := (h.step hb).2 hf
        have h3 := h.ok.fuel
        exact ih (h.step hb).1 _ (by omega)
/-- A machine that was started is right. -/
theorem OkM.start {code : List (Int × Int)} {p : Int} {S : S8} (h : canBe code p S = true) (hr : RngM S) : OkM code (fin8 S (putR8 S 2 (-1)), p, false) := by
  obtain ⟨h1, h2, h3⟩ := canBe_iff.1 h
  have hO := (ok8_iff S).1 h3
  have hg := good_ret hO hr (k := 2) (n := -1) ⟨by omega, by omega⟩ ⟨by omega, by omega⟩
  cases hp : putR8 S 2 (-1) with
  | inl f =>
    rw [hp] at hg
    exact ⟨h1, h2, hO.flt ⟨by have := hg.1; omega, hg.2⟩, hr.flt _⟩
  | inr T =>
    rw [hp] at hg
    exact ⟨h1, h2, hg.1, hg.2.1⟩
end Go.Proofs.Ytmnfdbgiemappaa

namespace Go.Proofs.Ytmnfdbgiemappaa
open Go.RowKit Go

/-- A state is stored. -/
def putSt (w : World) (g : Nat) (x0 x1 x2 x3 x4 x5 x6 x7 x8 x9 : Value) : World := ((((((((((w.setCell ⟨g, 0, none⟩ x0).setCell ⟨g, 1, none⟩ x1).setCell ⟨g, 2, none⟩ x2).setCell ⟨g, 3, none⟩ x3).setCell ⟨g, 4, none⟩ x4).setCell ⟨g, 5, none⟩ x5).setCell ⟨g, 6, none⟩ x6).setCell ⟨g, 7, none⟩ x7).setCell ⟨g, 8, none⟩ x8).setCell ⟨g, 9, none⟩ x9)
theorem putSt_blk {w : World} {g : Nat} {t : TypeId} {y0 y1 y2 y3 y4 y5 y6 y7 y8 y9 : Value} (h : Blk w g t #[y0, y1, y2, y3, y4, y5, y6, y7, y8, y9]) (x0 x1 x2 x3 x4 x5 x6 x7 x8 x9 : Value) : Blk (putSt w g x0 x1 x2 x3 x4 x5 x6 x7 x8 x9) g t #[x0, x1, x2, x3, x4, x5, x6, x7, x8, x9] := by
  have := ((((((((((h.put 0 x0).put 1 x1).put 2 x2).put 3 x3).put 4 x4).put 5 x5).put 6 x6).put 7 x7).put 8 x8).put 9 x9)
  simpa [putSt] using this
theorem putSt_only (w : World) (g : Nat) (x0 x1 x2 x3 x4 x5 x6 x7 x8 x9 : Value) : w.grownBy (putSt w g x0 x1 x2 x3 x4 x5 x6 x7 x8 x9) (some g) := by
  have h1 : w.grownBy (w.setCell ⟨g, 0, none⟩ x0) (some g) := only_setCell (World.grownBy.refl _ _) (.inl rfl) _
  have h2 : w.grownBy ((w.setCell ⟨g, 0, none⟩ x0).setCell ⟨g, 1, none⟩ x1) (some g) := only_setCell h1 (.inl rfl) _
  have h3 : w.grownBy (((w.setCell ⟨g, 0, none⟩ x0).setCell ⟨g, 1, none⟩ x1).setCell ⟨g, 2, none⟩ x2) (some g) := only_setCell h2 (.inl rfl) _
  have h4 : w.grownBy ((((w.setCell ⟨g, 0, none⟩ x0).setCell ⟨g, 1, none⟩ x1).setCell ⟨g, 2, none⟩ x2).setCell ⟨g, 3, none⟩ x3) (some g) := only_setCell h3 (.inl rfl) _
  have h5 : w.grownBy (((((w.setCell ⟨g, 0, none⟩ x0).setCell ⟨g, 1, none⟩ x1).setCell ⟨g, 2, none⟩ x2).setCell ⟨g, 3, none⟩ x3).setCell ⟨g, 4, none⟩ x4) (some g) := only_setCell h4 (.inl rfl) _
  have h6 : w.grownBy ((((((w.setCell ⟨g, 0, none⟩ x0).setCell ⟨g, 1, none⟩ x1).setCell ⟨g, 2, none⟩ x2).setCell ⟨g, 3, none⟩ x3).setCell ⟨g, 4, none⟩ x4).setCell ⟨g, 5, none⟩ x5) (some g) := only_setCell h5 (.inl rfl) _
  have h7 : w.grownBy (((((((w.setCell ⟨g, 0, none⟩ x0).setCell ⟨g, 1, none⟩ x1).setCell ⟨g, 2, none⟩ x2).setCell ⟨g, 3, none⟩ x3).setCell ⟨g, 4, none⟩ x4).setCell ⟨g, 5, none⟩ x5).setCell ⟨g, 6, none⟩ x6) (some g) := only_setCell h6 (.inl rfl) _
  have h8 : w.grownBy ((((((((w.setCell ⟨g, 0, none⟩ x0).setCell ⟨g, 1, none⟩ x1).setCell ⟨g, 2, none⟩ x2).setCell ⟨g, 3, none⟩ x3).setCell ⟨g, 4, none⟩ x4).setCell ⟨g, 5, none⟩ x5).setCell ⟨g, 6, none⟩ x6).setCell ⟨g, 7, none⟩ x7) (some g) := only_setCell h7 (.inl rfl) _
  have h9 : w.grownBy (((((((((w.setCell ⟨g, 0, none⟩ x0).setCell ⟨g, 1, none⟩ x1).setCell ⟨g, 2, none⟩ x2).setCell ⟨g, 3, none⟩ x3).setCell ⟨g, 4, none⟩ x4).setCell ⟨g, 5, none⟩ x5).setCell ⟨g, 6, none⟩ x6).setCell ⟨g, 7, none⟩ x7).setCell ⟨g, 8, none⟩ x8) (some g) := only_setCell h8 (.inl rfl) _
  have h10 : w.grownBy ((((((((((w.setCell ⟨g, 0, none⟩ x0).setCell ⟨g, 1, none⟩ x1).setCell ⟨g, 2, none⟩ x2).setCell ⟨g, 3, none⟩ x3).setCell ⟨g, 4, none⟩ x4).setCell ⟨g, 5, none⟩ x5).setCell ⟨g, 6, none⟩ x6).setCell ⟨g, 7, none⟩ x7).setCell ⟨g, 8, none⟩ x8).setCell ⟨g, 9, none⟩ x9) (some g) := only_setCell h9 (.inl rfl) _
  exact h10
theorem putSt_size (w : World) (g : Nat) (x0 x1 x2 x3 x4 x5 x6 x7 x8 x9 : Value) : (putSt w g x0 x1 x2 x3 x4 x5 x6 x7 x8 x9).heap.size = w.heap.size := by
  have hz : ∀ (w : World) (p : Addr) (u : Value), (w.setCell p u).heap.size = w.heap.size := fun w p u => by simp [World.setCell]
  unfold putSt
  simp only [hz]
theorem putSt_far {w : World} {g q : Nat} {t : TypeId} {cs : Array Value} (h : Blk w q t cs) (hq : q ≠ g) (x0 x1 x2 x3 x4 x5 x6 x7 x8 x9 : Value) : Blk (putSt w g x0 x1 x2 x3 x4 x5 x6 x7 x8 x9) q t cs := h.grown (putSt_only w g x0 x1 x2 x3 x4 x5 x6 x7 x8 x9) (fun e => hq (Option.some.inj e))
/-- Nothing of a row is changed by a store elsewhere. -/
theorem own_putG {w : World} {base size : Nat} {e : TypeId} {v : Value} {n : Nat} {xs : List Value} (h : w.ownsRow base e size v n xs) {p : Addr} (hp : p.block < base) (u : Value) : (w.setCell p u).ownsRow base e size v n xs :=
  h.kept (row := some p.block) (only_setCell (World.grownBy.refl _ _) (.inl rfl) _) (.inr fun e => by have := own_lt h _ e; omega)
theorem own_belowG {w w' : World} {base size B : Nat} {e : TypeId} {v : Value} {n : Nat} {xs : List Value} (h : w.ownsRow base e size v n xs) (hb : Below B w w') (hB : w.heap.size ≤ B) : w'.ownsRow base e size v n xs :=
  h.kept (row := none) ⟨hb.os, hb.tape, hb.output, hb.size, fun i hi _ => hb.block i (by omega)⟩ (by cases v.ownBlock <;> simp)
theorem own_formG {w : World} {base size : Nat} {e : TypeId} {v : Value} {n : Nat} {xs : List Value} (h : w.ownsRow base e size v n xs) : ∃ A cap, v = .slice A n cap := by
  rcases h.2 with ⟨rfl, h0⟩ | ⟨g, cap, cur, rfl, -⟩
  · exact ⟨none, 0, by rw [h0]⟩
  · exact ⟨_, _, rfl⟩
theorem own_setSt {w : World} {base size g : Nat} {e : TypeId} {v : Value} {n : Nat} {xs : List Value} (h : w.ownsRow base e size v n xs) (hp : g < base) (x0 x1 x2 x3 x4 x5 x6 x7 x8 x9 : Value) : (putSt w g x0 x1 x2 x3 x4 x5 x6 x7 x8 x9).ownsRow base e size v n xs :=
  h.kept (putSt_only _ _ _ _ _ _ _ _ _ _ _ _) (.inr fun e => by have := own_lt h _ e; omega)
theorem apart_lt {w : World} {b2 s2 n2 : Nat} {e2 : TypeId} {u v : Value} {ys : List Value} {k : Nat} (h1 : ∀ j, u.ownBlock = some j → j < k) (h2 : w.ownsRow b2 e2 s2 v n2 ys) (hk : k ≤ b2) : u.ownBlock = none ∨ u.ownBlock ≠ v.ownBlock := by
  cases hq : u.ownBlock with
  | none => exact .inl rfl
  | some j => exact .inr fun e => by have h3 := h1 j hq; have h4 := own_lt h2 j e.symm; omega
theorem OwnSt.of7T {w : World} {lo : Nat} {d r m c v o i : Value} {S : S8}
    (hd : w.ownsRow lo 21 1 d S.data.length (S.data.map iv)) (hr : w.ownsRow lo 58 2 r S.ret.length (slv S.ret)) (hm : w.ownsRow lo 21 1 m S.mem.length (S.mem.map iv)) (hc : w.ownsRow lo 95 1 c S.cells.length (S.cells.map u32v))
    (hv : w.ownsRow lo 3 1 v S.vars.length (S.vars.map lv)) (ho : w.ownsRow lo 5 1 o S.out.length (S.out.map b8v)) (hi : TailB w lo 5 i S.inp.length (S.inp.map b8v)) (hdm : d.ownBlock = none ∨ d.ownBlock ≠ m.ownBlock) (hoi : o.ownBlock = none ∨ o.ownBlock ≠ i.ownBlock) : OwnSt w lo w.heap.size d r m c v o i S := by
  refine ⟨fun x hx k hk => ?_, hdm, hoi, hd, hr, hm, hc, hv, ho, hi⟩
  simp only [List.mem_cons, List.not_mem_nil, or_false] at hx
  rcases hx with rfl | rfl | rfl | rfl | rfl | rfl | rfl
  · exact (World.ownsRow.lt hd k hk).2
  · exact (World.ownsRow.lt hr k hk).2
  · exact (World.ownsRow.lt hm k hk).2
  · exact (World.ownsRow.lt hc k hk).2
  · exact (World.ownsRow.lt hv k hk).2
  · exact (World.ownsRow.lt ho k hk).2
  · exact (TailB.lt hi k hk).2
theorem OwnSt.of7 {w : World} {lo : Nat} {d r m c v o i : Value} {S : S8}
    (hd : w.ownsRow lo 21 1 d S.data.length (S.data.map iv)) (hr : w.ownsRow lo 58 2 r S.ret.length (slv S.ret)) (hm : w.ownsRow lo 21 1 m S.mem.length (S.mem.map iv)) (hc : w.ownsRow lo 95 1 c S.cells.length (S.cells.map u32v))
    (hv : w.ownsRow lo 3 1 v S.vars.length (S.vars.map lv)) (ho : w.ownsRow lo 5 1 o S.out.length (S.out.map b8v)) (hi : w.ownsRow lo 5 1 i S.inp.length (S.inp.map b8v)) (hdm : d.ownBlock = none ∨ d.ownBlock ≠ m.ownBlock) (hoi : o.ownBlock = none ∨ o.ownBlock ≠ i.ownBlock) : OwnSt w lo w.heap.size d r m c v o i S :=
  OwnSt.of7T hd hr hm hc hv ho (.of_own hi) hdm hoi
end Go.Proofs.Ytmnfdbgiemappaa

namespace Go.Proofs.Ytmnfdbgiemappaa
open Go.RowKit Go

/-- A goal at which the walk stands still. -/
def Stop (P : Prop) : Prop := P
theorem unstop {P : Prop} (h : Stop P) : P := h
theorem Stop.go {P : Prop} (h : P) : Stop P := h
/-- A list from which one appends: nil or an address with its cells. -/
def SrcAt (w : World) (size : Nat) (u : Value) (m : Nat) (ys : List Value) : Prop :=
  ∃ (A : Option Addr) (c : Nat), u = .slice A m c ∧ ys.length = m * size ∧ (A = none → m = 0) ∧ ∀ a, A = some a → ∀ j x, ys[j]? = some x → w.cell? (a.add j) = some x
/-- Where the result of an append lies: in the row itself, which has room, or in new memory. -/
def AppAlt (w w' : World) (v v' : Value) (n m : Nat) : Prop :=
  (∃ g cap, v = .slice (some ⟨g, 0, none⟩) n cap ∧ n + m ≤ cap ∧ v' = .slice (some ⟨g, 0, none⟩) (n + m) cap ∧ w.grownBy w' (some g)) ∨ (Below w.heap.size w w' ∧ ∀ k, v'.ownBlock = some k → w.heap.size ≤ k)
theorem AppAlt.grown {w w' : World} {v v' : Value} {n m : Nat} (h : AppAlt w w' v v' n m) : w.grownBy w' v.ownBlock := by
  rcases h with ⟨g, cap, rfl, -, -, h⟩ | ⟨h, -⟩
  · exact h
  · exact only_of_below h _
section
variable {P : Program} {w : World}
theorem run_append_nil_src (base : Nat) (t ty e : TypeId) (i : TypeInfo) (size : Nat) (ht : P.underlying t = some (.slice e)) (hi : P.info? e = some i)
    (v : Value) (n : Nat) (xs : List Value) (hown : w.ownsRow base e size v n xs) (c : Nat) : (Builtin.append_ #[t, t] ty #[v, .slice none 0 c]).run P w = .ok v w := by
  rcases hown.2 with ⟨rfl, rfl⟩ | ⟨g, cap, cur, rfl, _, _, hnc, _⟩
  · simp [Builtin.append_, run_underlying ht, sizeOf, typeInfo, hi, Builtin.lenOf, Builtin.firstCells]
  · simp [Builtin.append_, run_underlying ht, sizeOf, typeInfo, hi, Builtin.lenOf, Builtin.firstCells, hnc, storeCells]
theorem run_append_alt (base : Nat) (t ty e : TypeId) (i : TypeInfo) (z : Value) (size bytes : Nat) (ht : P.underlying t = some (.slice e)) (hi : P.info? e = some i) (hz : i.zero = some z)
    (hsize : i.size = size) (hby : i.bytes = bytes) (hzs : z.cells.size = size) (hsz : 0 < size)
    (v : Value) (n : Nat) (xs : List Value) (hown : w.ownsRow base e size v n xs)
    (u : Value) (m : Nat) (ys : List Value) (hsrc : SrcAt w size u m ys) (h1 : ∀ x ∈ ys, x.oneCell' = true)
    (h63 : n + m ≤ maxLen) (hbytes : (n + m) * bytes ≤ 140737488355328) (hbase : base ≤ w.heap.size) :
    ∃ v' w', (Builtin.append_ #[t, t] ty #[v, u]).run P w = .ok v' w' ∧ w'.ownsRow base e size v' (n + m) (xs ++ ys) ∧ AppAlt w w' v v' n m := by
  obtain ⟨A, c, rfl, hl, hnone, hcells⟩ := hsrc
  cases A with
  | none =>
    obtain rfl := hnone rfl
    have hys : ys = [] := List.eq_nil_of_length_eq_zero (by simpa using hl)
    subst hys
    refine ⟨v, w, run_append_nil_src base t ty e i size ht hi v n xs hown c, by simpa using hown, ?_⟩
    rcases hown.2 with ⟨rfl, -⟩ | ⟨g, cap, cur, rfl, -, -, hnc, -⟩
    · exact .inr ⟨Below.refl _ _, fun k hk => by simp [Value.ownBlock] at hk⟩
    · exact .inl ⟨g, cap, rfl, by omega, rfl, World.grownBy.refl _ _⟩
  | some a =>
    have hnews := hcells a rfl
    rcases hown.2 with ⟨rfl, hn0⟩ | ⟨g, cap, cur, rfl, hbg, hg, hnc, hcm, hcs, htake⟩
    · have hown2 : w.ownsRow w.heap.size e size (.slice none 0 0) n xs := by
        subst hn0
        have hx : xs = [] := List.eq_nil_of_length_eq_zero (by simpa using hown.1)
        rw [hx]
        exact World.ownsRow_nil _ _ _ _
      obtain ⟨v', w', hr, ho, hgr, -⟩ := run_append_own (P := P) w w.heap.size t ty e i z size bytes ht hi hz hsize hby hzs hsz _ n xs hown2 a m c ys hl hnews h1 h63 hbytes (Nat.le_refl _)
      exact ⟨v', w', hr, ho.mono hbase, .inr ⟨(Below.refl _ _).grown hgr (Nat.le_refl _) (fun k hk => by simp [Value.ownBlock] at hk), fun k hk => (World.ownsRow.lt ho k hk).1⟩⟩
    · by_cases hroom : n + m ≤ cap
      · obtain ⟨w', hr, ho, hgr⟩ := run_append_own_spare (P := P) w base t ty e i size ht hi hsize g n cap xs hown a m c ys hl hnews h1 hroom
        exact ⟨_, w', hr, ho, .inl ⟨g, cap, rfl, hroom, rfl, hgr⟩⟩
      · subst hsize
        subst hby
        have hsmall : n + m ≤ 9223372036854775807 := by simp only [maxLen] at h63; omega
        have holds : ∀ j u, xs[j]? = some u → w.cell? ((⟨g, 0, none⟩ : Addr).add j) = some u := World.ownsRow.cells hown (g := g) rfl
        have hr := run_append_grow (P := P) w t ty e i z ht hi hz ⟨g, 0, none⟩ n cap xs hown.1 holds a m c ys hl hnews (by omega) (by omega) (growslice_fits (by omega) hbytes)
        have hlen : (xs ++ ys).length = (n + m) * i.size := by rw [List.length_append, hown.1, hl, Nat.add_mul]
        refine ⟨_, _, hr, ⟨hlen, .inr ⟨w.heap.size, _, _, rfl, hbase, heap_alloc_new w.drew _, grownCap_ge w (n + m) cap e, grownCap_le_maxLen w (n + m) cap e h63, ?_, ?_⟩⟩, .inr ⟨⟨rfl, rfl, rfl, by simp, fun k hk => Below.heap_alloc w.drew _ k hk⟩, fun k hk => by simp [Value.ownBlock] at hk; omega⟩⟩
        · have h2 := grownCap_ge w (n + m) cap e
          simp only [Array.size_append, List.size_toArray, size_zeroCells, hzs, hown.1, hl, ← Nat.add_mul]
          congr 1
          omega
        · rw [Array.toList_append, Array.toList_append, ← hlen]
          exact List.take_left
theorem wpList_append_src {ops : Array Oper} {rest : List Oper} {o : Oper} {a : Act} {Q : Exit → Act → World → Prop} (hgd : o.guard = none) (s x : Operand) (t : TypeId)
    (ho : o.op = .call { callee := .builtin .append, args := #[s, x], argTypes := #[t, t] })
    (base : Nat) (e : TypeId) (i : TypeInfo) (z : Value) (size bytes : Nat) (ht : P.underlying t = some (.slice e)) (hi : P.info? e = some i) (hz : i.zero = some z)
    (hsize : i.size = size) (hby : i.bytes = bytes) (hzs : z.cells.size = size) (hsz : 0 < size)
    (v : Value) (n : Nat) (xs : List Value) (hs : a.eval s = v) (hown : w.ownsRow base e size v n xs)
    (u : Value) (m : Nat) (ys : List Value) (hx : a.eval x = u) (hsrc : SrcAt w size u m ys) (h1 : ∀ x ∈ ys, x.oneCell' = true)
    (h63 : n + m ≤ maxLen) (hbytes : (n + m) * bytes ≤ 140737488355328) (hbase : base ≤ w.heap.size)
    (h : ∀ v' w', w'.ownsRow base e size v' (n + m) (xs ++ ys) → Hid (AppAlt w w' v v' n m) → wpList P ops Q rest (a.put o.dst v') w') : wpList P ops Q (o :: rest) a w := by
  refine wpList_plain hgd fun K hK => ?_
  obtain ⟨v', w', hrun, h2, h3⟩ := run_append_alt (P := P) base t o.type e i z size bytes ht hi hz hsize hby hzs hsz v n xs hown u m ys hsrc h1 h63 hbytes hbase
  unfold Oper.wp
  simp [execOp, ho, resolve, invoke, builtin, hs, hx, hrun, Result.andThen]
  exact hK _ _ (h v' w' h2 h3)
end
end Go.Proofs.Ytmnfdbgiemappaa

namespace Go.Proofs.Ytmnfdbgiemappaa
open Go.RowKit Go

section
variable {w w' : World} {lo hi : Nat} {d r m c v o i : Value} {S : S8}
theorem OwnSt.alloc (h : OwnSt w lo hi d r m c v o i S) (ob : Obj) : OwnSt (w.alloc ob) lo hi d r m c v o i S := h.keep (below_alloc w ob)
theorem OwnSt.setCell (h : OwnSt w lo hi d r m c v o i S) {p : Addr} (hp : p.block < lo ∨ hi ≤ p.block) (u : Value) : OwnSt (w.setCell p u) lo hi d r m c v o i S :=
  h.same fun k h1 h2 _ => Below.heap_setCell w p u k (by rintro rfl; omega)
theorem OwnSt.setSt (h : OwnSt w lo hi d r m c v o i S) {g : Nat} (hp : g < lo ∨ hi ≤ g) (x0 x1 x2 x3 x4 x5 x6 x7 x8 x9 : Value) : OwnSt (putSt w g x0 x1 x2 x3 x4 x5 x6 x7 x8 x9) lo hi d r m c v o i S :=
  h.same fun k h1 h2 h3 => (putSt_only w g x0 x1 x2 x3 x4 x5 x6 x7 x8 x9).block k h3 (fun e => by injection e with e; omega)
theorem OwnSt.scal (h : OwnSt w lo hi d r m c v o i S) (a f u : Int) : OwnSt w lo hi d r m c v o i { S with a := a, fault := f, fuel := u } := ⟨h.top, h.dm, h.oi, h.d, h.r, h.m, h.c, h.v, h.o, h.i⟩
theorem own_prefix {e : TypeId} {A : Option Addr} {N cap n : Nat} {xs : List Value} (h : w.ownsRow lo e 1 (.slice A N cap) N xs) (hn : n ≤ N) : w.ownsRow lo e 1 (.slice A n cap) n (xs.take n) := by
  have hl := h.1
  refine ⟨by rw [List.length_take]; omega, ?_⟩
  rcases h.2 with ⟨e1, h0⟩ | ⟨g, cp, cur, e1, hb, hg, hnc, hm, hsz, ht⟩
  · injection e1 with e1 e2 e3
    subst e1 e3
    exact .inl ⟨by rw [show n = 0 by omega], by omega⟩
  · injection e1 with e1 e2 e3
    subst e1 e3
    refine .inr ⟨g, cap, cur, rfl, hb, hg, by omega, hm, hsz, ?_⟩
    rw [← ht, List.take_take]
    congr 1
    omega
theorem own_block {A : Option Addr} {N cap n : Nat} : (Value.slice A n cap).ownBlock = (Value.slice A N cap).ownBlock := by cases A <;> rfl
/-- A store into a box that is none of the rows. -/
theorem OwnSt.atBox (h : OwnSt w lo hi d r m c v o i S) {g : Nat} {t : TypeId} {cs : Array Value} (hk : Blk w g t cs) (hg : w.grownBy w' (some g)) (h1 : t ≠ 21) (h2 : t ≠ 58) (h3 : t ≠ 95) (h4 : t ≠ 3) (h5 : t ≠ 5) : OwnSt w' lo hi d r m c v o i S := by
  have K : ∀ {e : TypeId} {size n : Nat} {x : Value} {xs : List Value}, w.ownsRow lo e size x n xs → t ≠ e → w'.ownsRow lo e size x n xs := fun ho ht => ho.kept hg (.inr fun e => box_neG hk ho ht e.symm)
  exact ⟨h.top, h.dm, h.oi, K h.d h1, K h.r h2, K h.m h1, K h.c h3, K h.v h4, K h.o h5, h.i.kept hg (.inr fun e => box_neT hk h.i h5 e.symm)⟩
/-- The data row is another one; what changed lies in the old one or in new memory. -/
theorem OwnSt.data (h : OwnSt w lo hi d r m c v o i S) (hh : hi ≤ w.heap.size) {d' : Value} {l : List Int} (hd : w'.ownsRow lo 21 1 d' l.length (l.map iv)) (hg : w.grownBy w' d.ownBlock) (hb : ∀ k, d'.ownBlock = some k → d.ownBlock = some k ∨ w.heap.size ≤ k) : OwnSt w' lo w'.heap.size d' r m c v o i { S with data := l } := by
  have K : ∀ {e : TypeId} {size n : Nat} {x : Value} {xs : List Value}, w.ownsRow lo e size x n xs → (x.ownBlock = none ∨ x.ownBlock ≠ d.ownBlock) → w'.ownsRow lo e size x n xs := fun ho hne => ho.kept hg hne
  have hm := K h.m (apart_sym h.dm)
  refine OwnSt.of7T (S := { S with data := l }) hd (K h.r (rows_ne h.r h.d (by decide))) hm (K h.c (rows_ne h.c h.d (by decide))) (K h.v (rows_ne h.v h.d (by decide))) (K h.o (rows_ne h.o h.d (by decide))) (h.i.kept hg (tail_ne h.i h.d (by decide))) ?_ h.oi
  cases hq : d'.ownBlock with
  | none => exact .inl rfl
  | some k =>
    refine .inr fun e => ?_
    rcases hb k hq with h1 | h1
    · rcases h.dm with h2 | h2
      · rw [h1] at h2; cases h2
      · exact h2 (h1.trans e)
    · have := h.top m (by simp) k e.symm
      omega
theorem AppAlt.where_ {n k2 : Nat} {d' : Value} (h : AppAlt w w' d d' n k2) : ∀ k, d'.ownBlock = some k → d.ownBlock = some k ∨ w.heap.size ≤ k := by
  intro k hk
  rcases h with ⟨g, cap, rfl, -, rfl, -⟩ | ⟨-, h⟩
  · exact .inl hk
  · exact .inr (h k hk)
end
/-- A state handed back. -/
theorem newst_of {w W : World} {lo hi : Nat} {d r m c v o i : Value} {S : S8} (h : OwnSt W lo hi d r m c v o i S) (h1 : w.heap.size ≤ lo) (h2 : hi ≤ W.heap.size) (hb : Below w.heap.size w W) :
    NewSt w S (.returned (.agg #[d, r, .int .i32 S.a, m, c, v, o, i, .int .i64 S.fault, .int .i64 S.fuel])) W := ⟨d, r, m, c, v, o, i, rfl, h.mono h1 h2, hb⟩
/-- A state's box and the box of a state that is told, both new. -/
theorem st_boxes (w : World) (cs : Array Value) : Hid (Blk ((w.alloc (.cells cs 34)).alloc (.cells #[.slice none 0 0, .slice none 0 0, .int .i32 0, .slice none 0 0, .slice none 0 0, .slice none 0 0, .slice none 0 0, .slice none 0 0, .int .i64 0, .int .i64 0] 34)) w.heap.size 34 cs) ∧ Hid (Blk ((w.alloc (.cells cs 34)).alloc (.cells #[.slice none 0 0, .slice none 0 0, .int .i32 0, .slice none 0 0, .slice none 0 0, .slice none 0 0, .slice none 0 0, .slice none 0 0, .int .i64 0, .int .i64 0] 34)) (w.heap.size + 1) 34 #[.slice none 0 0, .slice none 0 0, .int .i32 0, .slice none 0 0, .slice none 0 0, .slice none 0 0, .slice none 0 0, .slice none 0 0, .int .i64 0, .int .i64 0]) ∧
    Hid (Below w.heap.size w ((w.alloc (.cells cs 34)).alloc (.cells #[.slice none 0 0, .slice none 0 0, .int .i32 0, .slice none 0 0, .slice none 0 0, .slice none 0 0, .slice none 0 0, .slice none 0 0, .int .i64 0, .int .i64 0] 34))) ∧ Hid (((w.alloc (.cells cs 34)).alloc (.cells #[.slice none 0 0, .slice none 0 0, .int .i32 0, .slice none 0 0, .slice none 0 0, .slice none 0 0, .slice none 0 0, .slice none 0 0, .int .i64 0, .int .i64 0] 34)).heap.size = w.heap.size + 2) := by
  have h1 := Blk.new (w.alloc (.cells cs 34)) 34 #[.slice none 0 0, .slice none 0 0, .int .i32 0, .slice none 0 0, .slice none 0 0, .slice none 0 0, .slice none 0 0, .slice none 0 0, .int .i64 0, .int .i64 0]
  rw [World.size_alloc] at h1
  exact ⟨Lib.hid ((Blk.new w _ cs).alloc _), Lib.hid h1, Lib.hid (below_alloc2 w _ _), Lib.hid (by simp)⟩
/-- The same with a box of one cell between. -/
theorem st_boxes3 (w : World) (cs : Array Value) (t : TypeId) (v : Value) : Hid (Blk (((w.alloc (.cells cs 34)).alloc (.cells #[v] t)).alloc (.cells #[.slice none 0 0, .slice none 0 0, .int .i32 0, .slice none 0 0, .slice none 0 0, .slice none 0 0, .slice none 0 0, .slice none 0 0, .int .i64 0, .int .i64 0] 34)) (w.heap.size + 1) t #[v]) ∧ Hid (Blk (((w.alloc (.cells cs 34)).alloc (.cells #[v] t)).alloc (.cells #[.slice none 0 0, .slice none 0 0, .int .i32 0, .slice none 0 0, .slice none 0 0, .slice none 0 0, .slice none 0 0, .slice none 0 0, .int .i64 0, .int .i64 0] 34)) (w.heap.size + 2) 34 #[.slice none 0 0, .slice none 0 0, .int .i32 0, .slice none 0 0, .slice none 0 0, .slice none 0 0, .slice none 0 0, .slice none 0 0, .int .i64 0, .int .i64 0]) ∧
    Hid (Below w.heap.size w (((w.alloc (.cells cs 34)).alloc (.cells #[v] t)).alloc (.cells #[.slice none 0 0, .slice none 0 0, .int .i32 0, .slice none 0 0, .slice none 0 0, .slice none 0 0, .slice none 0 0, .slice none 0 0, .int .i64 0, .int .i64 0] 34))) ∧ Hid ((((w.alloc (.cells cs 34)).alloc (.cells #[v] t)).alloc (.cells #[.slice none 0 0, .slice none 0 0, .int .i32 0, .slice none 0 0, .slice none 0 0, .slice none 0 0, .slice none 0 0, .slice none 0 0, .int .i64 0, .int .i64 0] 34)).heap.size = w.heap.size + 3) := by
  have h0 := Blk.new (w.alloc (.cells cs 34)) t #[v]
  have h1 := Blk.new ((w.alloc (.cells cs 34)).alloc (.cells #[v] t)) 34 #[.slice none 0 0, .slice none 0 0, .int .i32 0, .slice none 0 0, .slice none 0 0, .slice none 0 0, .slice none 0 0, .slice none 0 0, .int .i64 0, .int .i64 0]
  rw [World.size_alloc] at h0
  rw [World.size_alloc, World.size_alloc] at h1
  exact ⟨Lib.hid (h0.alloc _), Lib.hid h1, Lib.hid ((below_alloc2 w _ _).alloc (below_alloc2 w _ _).size _), Lib.hid (by simp)⟩
/-- The end of a function that tells a state: it lies in its box, stored last. -/
theorem st_end {fn : Func} {a : Act} {w W : World} {g lo hi k : Nat} {t : TypeId} {y0 y1 y2 y3 y4 y5 y6 y7 y8 y9 d r m c v o i : Value} {S : S8} (hf : fn.results = #[ResultVar.cell k 34]) (ha : a.tmps[k]? = some (.pointer (some ⟨g, 0, none⟩))) (hd : a.defers = []) (hk : Blk W g t #[y0, y1, y2, y3, y4, y5, y6, y7, y8, y9]) (hb : Below w.heap.size w W) (ho : OwnSt W lo hi d r m c v o i S) (hg : w.heap.size ≤ g) (hlo : w.heap.size ≤ lo) (hgl : g < lo ∨ hi ≤ g) (hhi : hi ≤ W.heap.size) :
    bodyPost Try.prog fn (NewSt w S) Exit.ret a (putSt W g d r (.int .i32 S.a) m c v o i (.int .i64 S.fault) (.int .i64 S.fuel)) := by
  have y1 := putSt_blk hk d r (.int .i32 S.a) m c v o i (.int .i64 S.fault) (.int .i64 S.fuel)
  have y2 := hb.grown (putSt_only W g d r (.int .i32 S.a) m c v o i (.int .i64 S.fault) (.int .i64 S.fuel)) hb.size (fun k hk => by injection hk with hk; omega)
  have y3 := OwnSt.setSt ho hgl d r (.int .i32 S.a) m c v o i (.int .i64 S.fault) (.int .i64 S.fuel)
  have y4 := putSt_size W g d r (.int .i32 S.a) m c v o i (.int .i64 S.fault) (.int .i64 S.fuel)
  generalize putSt W g d r (.int .i32 S.a) m c v o i (.int .i64 S.fault) (.int .i64 S.fuel) = W' at y1 y2 y3 y4 ⊢
  obtain ⟨z0, z1, z2, z3, z4, z5, z6, z7, z8, z9⟩ := st_cells y1
  exact bodyPost_ret (v := .agg #[d, r, .int .i32 S.a, m, c, v, o, i, .int .i64 S.fault, .int .i64 S.fuel]) (by simp [results, hf, ha, z0, z1, z2, z3, z4, z5, z6, z7, z8, z9, go_sem]) hd (newst_of y3 hlo (by omega) y2)
end Go.Proofs.Ytmnfdbgiemappaa
