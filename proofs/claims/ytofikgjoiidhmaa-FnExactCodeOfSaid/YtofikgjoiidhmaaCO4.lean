/-
  (*impl.maker).step, and what a stack of functions does.
  The maker's functions: what an op adds, what hangs on it, and what an end fills.
  What closures do: a place is filled, or a step goes back.
-/
import Derived.Test.YtofikgjoiidhmaaCO3
import Derived.RegionTactic
import Derived.ChangeAlike
import Derived.Deep.RegionLaw
import Derived.Test.YtofikgjoiidhmaaCO1
import Derived.Test.YtofikgjoiidhmaaCO2
import Derived.Deep.RegionHeld3
namespace Go.Proofs.Ytofikgjoiidhmaa
open Go.RowKit Go

theorem src_ins (w : World) (a b : Value) : SrcAt (w.alloc (.cells #[a, b] 55)) 2 (.slice (some ⟨w.heap.size, 0, none⟩) 1 1) 1 [a, b] := by
  refine ⟨_, _, rfl, rfl, fun h => by simp at h, fun q hq j x hj => ?_⟩
  obtain rfl : q = ⟨w.heap.size, 0, none⟩ := by injection hq with hq; exact hq.symm
  rw [addr_lit, cell_of_row _ w.heap.size (0 + j) #[a, b] 55 (0, 0) (heap_alloc_new w _), Nat.zero_add]
  simpa using hj
theorem src_fn (w : World) (a : Value) : SrcAt (w.alloc (.cells #[a] 1)) 1 (.slice (some ⟨w.heap.size, 0, none⟩) 1 1) 1 [a] := by
  refine ⟨_, _, rfl, rfl, fun h => by simp at h, fun q hq j x hj => ?_⟩
  obtain rfl : q = ⟨w.heap.size, 0, none⟩ := by injection hq with hq; exact hq.symm
  rw [addr_lit, cell_of_row _ w.heap.size (0 + j) #[a] 1 (0, 0) (heap_alloc_new w _), Nat.zero_add]
  simpa using hj
theorem infoF : (Try.prog.info? 1).map (fun i => (i.zero, i.size, i.bytes)) = some (some .nilFunc, 1, 8) := by kernel_rfl
section
variable {lo g : Nat} {w : World} {Fz : List (Nat × Obj)} {vl vs ve vc : Value} {l : List (Int × Int)} {st : List Int} {ec cc : List Value}
set_option maxRecDepth 100000 in
set_option maxHeartbeats 2000000 in
theorem step_any (op n : Int) (hl : l.length ≤ 3000) (h : Mk4 lo g w Fz vl vs ve vc l st ec cc) :
    Calls Try.prog 29 #[.pointer (some ⟨g, 0, none⟩), .int .i64 op, .int .i64 n] w fun e w' => e = .returned (.tuple #[]) ∧ (∃ v', Mk4 lo g w' Fz v' vs ve vc (l ++ [(op, n)]) st ec cc) ∧ Below lo w w' := by
  obtain ⟨A, cap, rfl⟩ := own_formM h.rl
  obtain ⟨i0, hi0, hz0, hz1, hz2⟩ := info_parts infoIc
  obtain ⟨N, hN⟩ : ∃ N, l.length = N := ⟨_, rfl⟩
  have hlo : lo ≤ w.heap.size := by have := h.low; have := h.box.lt; omega
  have hb1 : Below w.heap.size w (w.alloc (.cells #[.int .i64 op, .int .i64 n] 55)) := below_alloc1 w _
  have H1 := Lib.hid (h.below hb1)
  have HB1 := Lib.hid (hb1.mono hlo)
  have SRC := Lib.hid (src_ins w (.int .i64 op) (.int .i64 n))
  have p0 : w.cell? ⟨g, 0, none⟩ = some (.slice A l.length cap) := h.box.cell 0
  have RL := Lib.hid (H1.out.rl)
  rw [hN] at p0 hl RL H1
  have HN := Lib.hid hN
  have HLO := Lib.hid hlo
  clear h hb1 hN hlo
  go_enter Try.func29, Try.ntmps29
  go_wp2_with (at_builtin; refine wpList_append_src rfl _ _ 24 rfl lo 55 i0 (.agg #[.int .i64 0, .int .i64 0]) 2 16 Try.underlying24 hi0 hz0 hz1 hz2 rfl (by decide) _ N _ rfl RL.out _ 1 [.int .i64 op, .int .i64 n] rfl SRC.out (by simp [Value.oneCell']) (by unfold maxLen; omega) (by omega) (by have := HLO.out; simp; omega) ?_; intro v9 w9 ho9 ha9; obtain ⟨D9, dc9, hv9⟩ := own_formM ho9; subst hv9; refine unstop ?_)
  refine Stop.go ?_
  have hrow : w9.ownsRow lo 55 2 (.slice D9 (N + 1) dc9) (l ++ [(op, n)]).length (cdv (l ++ [(op, n)])) := by
    rw [List.length_append, HN.out, cdv_app]
    exact ho9
  have key := H1.out.putL (l2 := l ++ [(op, n)]) hrow ha9.out
  have KEY := Lib.hid key
  have hk2 : Blk w9 g 60 _ := H1.out.box.grown ha9.out.grown (fun e => box_neM H1.out.box H1.out.rl (by decide) e.symm)
  have f9 := hk2.frozen 0
  obtain ⟨u9, p9⟩ : ∃ u, w9.cell? ⟨g, 0, none⟩ = some u := ⟨_, hk2.cell 0⟩
  clear ho9 ha9 key hk2 hrow SRC p0 RL
  go_wp2_with fail
  go_end0
  exact ⟨rfl, ⟨_, KEY.out.1⟩, HB1.out.trans (KEY.out.2)⟩
set_option maxRecDepth 100000 in
set_option maxHeartbeats 2000000 in
theorem pushf_any (k9 : Nat) (caps : Array Value) (f : Value) (hf : f = .func (.func k9) #[] caps) (he : ec.length ≤ 3000) (h : Mk4 lo g w Fz vl vs ve vc l st ec cc) :
    Calls Try.prog 60 #[.pointer (some ⟨g, 2, none⟩), f] w fun e w' => e = .returned (.tuple #[]) ∧ (∃ v', Mk4 lo g w' Fz vl vs v' vc l st (ec ++ [f]) cc) ∧ Below lo w w' := by
  subst hf
  obtain ⟨f, hfe⟩ : ∃ f : Value, Value.func (.func k9) #[] caps = f := ⟨_, rfl⟩
  rw [hfe]
  obtain ⟨A, cap, rfl⟩ := own_formM h.re
  obtain ⟨i0, hi0, hz0, hz1, hz2⟩ := info_parts infoF
  obtain ⟨N, hN⟩ : ∃ N, ec.length = N := ⟨_, rfl⟩
  have hlo : lo ≤ w.heap.size := by have := h.low; have := h.box.lt; omega
  have hb1 : Below w.heap.size w (w.alloc (.cells #[f] 1)) := below_alloc1 w _
  have H1 := Lib.hid (h.below hb1)
  have HB1 := Lib.hid (hb1.mono hlo)
  have SRC := Lib.hid (src_fn w f)
  have p0 : w.cell? ⟨g, 2, none⟩ = some (.slice A ec.length cap) := h.box.cell 2
  have RL := Lib.hid (H1.out.re)
  rw [hN] at p0 he RL H1
  have HN := Lib.hid hN
  have HLO := Lib.hid hlo
  subst hfe
  clear h hb1 hN hlo
  go_enter Try.func60, Try.ntmps60
  go_wp2_with (at_builtin; refine wpList_append_src rfl _ _ 58 rfl lo 1 i0 .nilFunc 1 8 Try.underlying58 hi0 hz0 hz1 hz2 rfl (by decide) _ N _ rfl RL.out _ 1 [Value.func (.func k9) #[] caps] rfl SRC.out (by simp [Value.oneCell']) (by unfold maxLen; omega) (by omega) (by have := HLO.out; simp; omega) ?_; intro v9 w9 ho9 ha9; obtain ⟨D9, dc9, hv9⟩ := own_formM ho9; subst hv9; refine unstop ?_)
  refine Stop.go ?_
  have hrow : w9.ownsRow lo 1 1 (.slice D9 (N + 1) dc9) (ec ++ [Value.func (.func k9) #[] caps]).length (ec ++ [Value.func (.func k9) #[] caps]) := by
    rw [List.length_append, HN.out]
    exact ho9
  have key := H1.out.putE (e2 := ec ++ [Value.func (.func k9) #[] caps]) hrow ha9.out
  have KEY := Lib.hid key
  have hk2 : Blk w9 g 60 _ := H1.out.box.grown ha9.out.grown (fun e => box_neM H1.out.box H1.out.re (by decide) e.symm)
  have f9 := hk2.frozen 2
  obtain ⟨u9, p9⟩ : ∃ u, w9.cell? ⟨g, 2, none⟩ = some u := ⟨_, hk2.cell 2⟩
  clear ho9 ha9 key hk2 hrow SRC p0 RL
  go_wp2_with fail
  go_end0
  exact ⟨rfl, ⟨_, KEY.out.1⟩, HB1.out.trans (KEY.out.2)⟩
/-- A list is a list without its last and that one. -/
theorem popf_any (k9 : Nat) (caps : Array Value) (e2 : List Value) (f : Value) (hf : f = .func (.func k9) #[] caps) (hec : ec = e2 ++ [f]) (he : e2.length ≤ 3000) (h : Mk4 lo g w Fz vl vs ve vc l st ec cc) :
    Calls Try.prog 62 #[.pointer (some ⟨g, 2, none⟩)] w fun e w' => e = .returned f ∧ (∃ v', Mk4 lo g w' Fz vl vs v' vc l st e2 cc) ∧ Below lo w w' := by
  obtain ⟨k, hk⟩ : ∃ k, e2.length = k := ⟨_, rfl⟩
  have hel : ec.length = k + 1 := by rw [hec, List.length_append, hk]; rfl
  have hre := h.re
  rw [hel] at hre
  obtain ⟨q, cap, rfl, hcap, hq, hloq⟩ := own_posM hre (by omega)
  have hlo : lo ≤ w.heap.size := by have := h.low; have := h.box.lt; omega
  have p0 : w.cell? ⟨g, 2, none⟩ = some (.slice (some ⟨q, 0, none⟩) (k + 1) cap) := h.box.cell 2
  have c0 : w.cell? ⟨q, k, none⟩ = some f := by
    rw [hre.cellAt k (by omega), hec, List.getElem?_append_right (by omega), hk, Nat.sub_self]
    rfl
  have f0 := h.box.frozen 2
  have ho2 : w.ownsRow lo 1 1 (.slice (some ⟨q, 0, none⟩) k cap) k e2 := by
    refine ⟨by rw [hk, Nat.mul_one], ?_⟩
    rcases hre.2 with ⟨e1, h0⟩ | ⟨q2, cp, cur, e1, hlo2, hrow, hle, hm, hsz, ht⟩
    · omega
    · injection e1 with e1 e2' e3
      injection e1 with e1
      injection e1 with e1
      subst e1 e3
      refine .inr ⟨q, cap, cur, rfl, hlo2, hrow, by omega, hm, hsz, ?_⟩
      have h2 := congrArg (List.take (k * 1)) ht
      rw [List.take_take, show min (k * 1) ((k + 1) * 1) = k * 1 by omega, hec, List.take_append_of_le_length (by omega), List.take_of_length_le (l := e2) (by omega)] at h2
      exact h2
  have KEY : Hid (Mk4 lo g (w.setCell ⟨g, 2, none⟩ (.slice (some ⟨q, 0, none⟩) k cap)) Fz vl vs (.slice (some ⟨q, 0, none⟩) k cap) vc l st e2 cc ∧ Below lo w (w.setCell ⟨g, 2, none⟩ (.slice (some ⟨q, 0, none⟩) k cap))) := Lib.hid (by
    have hput := h.box.put 2 (.slice (some ⟨q, 0, none⟩) k cap)
    have key : ∀ {base size n : Nat} {e : TypeId} {u : Value} {xs : List Value}, w.ownsRow base e size u n xs → 60 ≠ e → (w.setCell ⟨g, 2, none⟩ (.slice (some ⟨q, 0, none⟩) k cap)).ownsRow base e size u n xs := fun hr hm => row_sameM hr (fun k hk => Below.heap_setCell w _ _ k (fun e => by
      have e : k = g := e
      subst e
      exact box_neM h.box hr hm hk))
    have h2 : w.ownsRow lo 1 1 (.slice (some ⟨q, 0, none⟩) k cap) e2.length e2 := by rw [hk]; exact ho2
    exact ⟨⟨by simpa using hput, key h.rl (by decide), key h.rs (by decide), key h2 (by decide), key h.rc (by decide), h.ap, fun p hp => by
      have hp0 := h.fz p hp
      exact ⟨(Below.heap_setCell w _ _ p.1 (fun e => hp0.2.2.1 e)).trans hp0.1, hp0.2⟩, h.low⟩, (Below.refl lo w).setCell (p := ⟨g, 2, none⟩) h.low _⟩)
  have i1 : (0 : Int) ≤ (k : Int) := by omega
  have i2 : (k : Int) < (k : Int) + 1 := by omega
  have i3 : k ≤ cap := by omega
  have i4 : (k : Int) ≤ (cap : Int) := by omega
  have wz : IntKind.i64.wrap ((k : Int) + 1 - 1) = (k : Int) := by rw [show (k : Int) + 1 - 1 = (k : Int) by omega]; exact IntWalk.i64_in _ (by omega)
  have wy : (k : Int) + 1 - 1 = (k : Int) := by omega
  have wk : IntKind.i64.wrap (k : Int) = (k : Int) := IntWalk.i64_in _ (by omega)
  clear h hre ho2 hec hel hk he hq hloq hlo
  subst hf
  go_enter Try.func62, Try.ntmps62
  go_wp2_with fail
  go_ret
  exact ⟨rfl, ⟨_, KEY.out.1⟩, KEY.out.2⟩
end
end Go.Proofs.Ytofikgjoiidhmaa

namespace Go.Proofs.Ytofikgjoiidhmaa
open Go.RowKit Go

/-- Two lists, element by element. -/
inductive Both {α β : Type} (R : α → β → Prop) : List α → List β → Prop
  | nil : Both R [] []
  | cons (x : α) (y : β) (xs : List α) (ys : List β) (h : R x y) (t : Both R xs ys) : Both R (x :: xs) (y :: ys)
theorem Both.len {α β : Type} {R : α → β → Prop} {xs : List α} {ys : List β} (h : Both R xs ys) : xs.length = ys.length := by
  induction h with
  | nil => rfl
  | cons x y xs ys h t ih => simp only [List.length_cons, ih]
theorem Both.mono {α β : Type} {R S : α → β → Prop} {xs : List α} {ys : List β} (h : Both R xs ys) (hs : ∀ x y, R x y → S x y) : Both S xs ys := by
  induction h with
  | nil => exact .nil
  | cons x y xs ys h t ih => exact .cons x y xs ys (hs x y h) ih
theorem Both.snoc {α β : Type} {R : α → β → Prop} {xs : List α} {ys : List β} (h : Both R xs ys) {x : α} {y : β} (hx : R x y) : Both R (xs ++ [x]) (ys ++ [y]) := by
  induction h with
  | nil => exact .cons x y [] [] hx .nil
  | cons a b xs ys h t ih => exact .cons a b _ _ h ih
theorem Both.last {α β : Type} {R : α → β → Prop} : ∀ {xs : List α} {ys : List β} {y : β}, Both R xs (ys ++ [y]) → ∃ xs2 x, xs = xs2 ++ [x] ∧ Both R xs2 ys ∧ R x y := by
  intro xs ys
  induction ys generalizing xs with
  | nil =>
    intro y h
    cases h with
    | cons x0 y0 xs0 ys0 h t => cases t; exact ⟨[], _, rfl, .nil, h⟩
  | cons b bs ih =>
    intro y h
    cases h with
    | cons x0 y0 xs0 ys0 h t =>
      obtain ⟨xs2, x, rfl, h2, h3⟩ := ih t
      exact ⟨_ :: xs2, x, rfl, .cons _ _ xs2 bs h h2, h3⟩
theorem Both.get {α β : Type} {R : α → β → Prop} {xs : List α} {ys : List β} (h : Both R xs ys) : ∀ {i : Nat} (hi : i < ys.length), ∃ x, xs[i]? = some x ∧ R x ys[i] := by
  induction h with
  | nil => intro i hi; simp at hi
  | cons x y xs ys h t ih =>
    intro i hi
    cases i with
    | zero => exact ⟨x, rfl, h⟩
    | succ i => exact ih (i := i) (by simpa using hi)
abbrev mBox (g : Nat) : Obj := .cells #[.pointer (some ⟨g, 0, none⟩)] 82
abbrev nBox (n : Int) : Obj := .cells #[.int .i64 n] 3
/-- What a closure that ends something is. -/
def EndIs (Fz : List (Nat × Obj)) (g : Nat) (v : Value) (c : Cl) : Prop :=
  match c with
  | .past a => ∃ bm ba, (bm, mBox g) ∈ Fz ∧ (ba, nBox a) ∈ Fz ∧ v = .func (.func 71) #[] #[.pointer (some ⟨bm, 0, none⟩), .pointer (some ⟨ba, 0, none⟩)]
  | .again a => ∃ bm ba, (bm, mBox g) ∈ Fz ∧ (ba, nBox a) ∈ Fz ∧ v = .func (.func 61) #[] #[.pointer (some ⟨bm, 0, none⟩), .pointer (some ⟨ba, 0, none⟩)]
/-- What a closure that fills the place of a definition is. -/
def CallIs (Fz : List (Nat × Obj)) (g : Nat) (v : Value) (c : Nat × Nat) : Prop :=
  ∃ bm bk ba, (bm, mBox g) ∈ Fz ∧ (bk, nBox c.2) ∈ Fz ∧ (ba, nBox c.1) ∈ Fz ∧ v = .func (.func 58) #[] #[.pointer (some ⟨bm, 0, none⟩), .pointer (some ⟨bk, 0, none⟩), .pointer (some ⟨ba, 0, none⟩)]
theorem EndIs.more {Fz Gz : List (Nat × Obj)} {g : Nat} {v : Value} {c : Cl} (h : EndIs Fz g v c) (hs : ∀ p ∈ Fz, p ∈ Gz) : EndIs Gz g v c := by
  cases c with
  | past a => obtain ⟨bm, ba, h1, h2, h3⟩ := h; exact ⟨bm, ba, hs _ h1, hs _ h2, h3⟩
  | again a => obtain ⟨bm, ba, h1, h2, h3⟩ := h; exact ⟨bm, ba, hs _ h1, hs _ h2, h3⟩
theorem CallIs.more {Fz Gz : List (Nat × Obj)} {g : Nat} {v : Value} {c : Nat × Nat} (h : CallIs Fz g v c) (hs : ∀ p ∈ Fz, p ∈ Gz) : CallIs Gz g v c := by
  obtain ⟨bm, bk, ba, h1, h2, h3, h4⟩ := h; exact ⟨bm, bk, ba, hs _ h1, hs _ h2, hs _ h3, h4⟩
/-- The maker as it stands: its list, what ends wait, what calls wait, its starts. -/
def MkAt (lo g : Nat) (w : World) (Fz : List (Nat × Obj)) (l : List (Int × Int)) (E : List Cl) (C : List (Nat × Nat)) (st : List Int) : Prop :=
  ∃ vl vs ve vc ec cc, Mk4 lo g w Fz vl vs ve vc l st ec cc ∧ Both (EndIs Fz g) ec E ∧ Both (CallIs Fz g) cc C
section
variable {lo g : Nat} {w : World} {Fz : List (Nat × Obj)} {l : List (Int × Int)} {E : List Cl} {C : List (Nat × Nat)} {st : List Int}
theorem MkAt.below {w2 : World} (h : MkAt lo g w Fz l E C st) (hb : Below w.heap.size w w2) : MkAt lo g w2 Fz l E C st := by
  obtain ⟨vl, vs, ve, vc, ec, cc, h1, h2, h3⟩ := h
  exact ⟨vl, vs, ve, vc, ec, cc, h1.below hb, h2, h3⟩
theorem MkAt.hold (h : MkAt lo g w Fz l E C st) (o : Obj) : MkAt lo g (w.alloc o) ((w.heap.size, o) :: Fz) l E C st := by
  obtain ⟨vl, vs, ve, vc, ec, cc, h1, h2, h3⟩ := h
  exact ⟨vl, vs, ve, vc, ec, cc, h1.hold o, h2.mono (fun _ _ h => h.more (fun p hp => List.mem_cons_of_mem _ hp)), h3.mono (fun _ _ h => h.more (fun p hp => List.mem_cons_of_mem _ hp))⟩
theorem MkAt.lows (h : MkAt lo g w Fz l E C st) : lo ≤ w.heap.size := by
  obtain ⟨vl, vs, ve, vc, ec, cc, h1, -⟩ := h
  have := h1.low
  have := h1.box.lt
  omega
theorem MkAt.cell (h : MkAt lo g w Fz l E C st) {b : Nat} {u : Value} {t : TypeId} (hb : (b, Obj.cells #[u] t) ∈ Fz) : w.cell? ⟨b, 0, none⟩ = some u ∧ b < w.heap.size := by
  obtain ⟨vl, vs, ve, vc, ec, cc, h1, -⟩ := h
  exact ⟨h1.cell hb, (Array.getElem?_eq_some_iff.1 (h1.fz _ hb).1).1⟩
theorem mstep_any (op n : Int) (hl : l.length ≤ 3000) (h : MkAt lo g w Fz l E C st) :
    Calls Try.prog 29 #[.pointer (some ⟨g, 0, none⟩), .int .i64 op, .int .i64 n] w fun e w' => e = .returned (.tuple #[]) ∧ MkAt lo g w' Fz (l ++ [(op, n)]) E C st ∧ Below lo w w' := by
  obtain ⟨vl, vs, ve, vc, ec, cc, h1, h2, h3⟩ := h
  refine (step_any op n hl h1).mono ?_
  rintro e w2 ⟨rfl, ⟨v9, h9⟩, hb⟩
  exact ⟨rfl, ⟨v9, vs, ve, vc, ec, cc, h9, h2, h3⟩, hb⟩
theorem mpush_any {v : Value} {c : Cl} (hc : EndIs Fz g v c) (he : E.length ≤ 3000) (h : MkAt lo g w Fz l E C st) :
    Calls Try.prog 60 #[.pointer (some ⟨g, 2, none⟩), v] w fun e w' => e = .returned (.tuple #[]) ∧ MkAt lo g w' Fz l (E ++ [c]) C st ∧ Below lo w w' := by
  obtain ⟨vl, vs, ve, vc, ec, cc, h1, h2, h3⟩ := h
  have hl := h2.len
  have key : ∀ (k9 : Nat) (caps : Array Value), v = .func (.func k9) #[] caps → Calls Try.prog 60 #[.pointer (some ⟨g, 2, none⟩), v] w fun e w' => e = .returned (.tuple #[]) ∧ MkAt lo g w' Fz l (E ++ [c]) C st ∧ Below lo w w' := fun k9 caps hv => by
    refine (pushf_any k9 caps v hv (by omega) h1).mono ?_
    rintro e w2 ⟨rfl, ⟨v9, h9⟩, hb⟩
    exact ⟨rfl, ⟨vl, vs, v9, vc, ec ++ [v], cc, h9, h2.snoc hc, h3⟩, hb⟩
  cases c with
  | past a => obtain ⟨bm, ba, -, -, hv⟩ := hc; exact key _ _ hv
  | again a => obtain ⟨bm, ba, -, -, hv⟩ := hc; exact key _ _ hv
theorem mpop_any {c : Cl} (he : E.length ≤ 3000) (h : MkAt lo g w Fz l (E ++ [c]) C st) :
    Calls Try.prog 62 #[.pointer (some ⟨g, 2, none⟩)] w fun e w' => ∃ v, e = .returned v ∧ EndIs Fz g v c ∧ MkAt lo g w' Fz l E C st ∧ Below lo w w' := by
  obtain ⟨vl, vs, ve, vc, ec, cc, h1, h2, h3⟩ := h
  obtain ⟨e2, x, rfl, h4, h5⟩ := h2.last
  have hl := h4.len
  have key : ∀ (k9 : Nat) (caps : Array Value), x = .func (.func k9) #[] caps → Calls Try.prog 62 #[.pointer (some ⟨g, 2, none⟩)] w fun e w' => ∃ v, e = .returned v ∧ EndIs Fz g v c ∧ MkAt lo g w' Fz l E C st ∧ Below lo w w' := fun k9 caps hv => by
    refine (popf_any k9 caps e2 x hv rfl (by omega) h1).mono ?_
    rintro e w2 ⟨rfl, ⟨v9, h9⟩, hb⟩
    exact ⟨x, rfl, h5, ⟨vl, vs, v9, vc, e2, cc, h9, h4, h3⟩, hb⟩
  cases c with
  | past a => obtain ⟨bm, ba, -, -, hv⟩ := h5; exact key _ _ hv
  | again a => obtain ⟨bm, ba, -, -, hv⟩ := h5; exact key _ _ hv
set_option maxRecDepth 100000 in
set_option maxHeartbeats 2000000 in
theorem past_any (op : Int) (hl : l.length ≤ 3000) (he : E.length ≤ 3000) (h : MkAt lo g w Fz l E C st) :
    Calls Try.prog 59 #[.pointer (some ⟨g, 0, none⟩), .int .i64 op] w fun e w' => e = .returned (.tuple #[]) ∧ (∃ Gz, (∀ p ∈ Fz, p ∈ Gz) ∧ MkAt lo g w' Gz (l ++ [(op, 0)]) (E ++ [.past l.length]) C st) ∧ Below lo w w' := by
  obtain ⟨A, n, cap, hA, hn, p0⟩ : ∃ A n cap, w.cell? ⟨g, 0, none⟩ = some (.slice A n cap) ∧ n = l.length ∧ g < w.heap.size := by
    obtain ⟨vl, vs, ve, vc, ec, cc, h1, -⟩ := h
    obtain ⟨A, cap, rfl⟩ := own_formM h1.rl
    exact ⟨A, _, cap, h1.box.cell 0, rfl, h1.box.lt⟩
  subst hn
  have hlo := h.lows
  have h2 := (h.hold (mBox g)).hold (nBox (l.length : Int))
  rw [World.size_alloc] at h2
  have hm1 : (w.heap.size, mBox g) ∈ (w.heap.size + 1, nBox (l.length : Int)) :: (w.heap.size, mBox g) :: Fz := by simp
  have hm2 : (w.heap.size + 1, nBox (l.length : Int)) ∈ (w.heap.size + 1, nBox (l.length : Int)) :: (w.heap.size, mBox g) :: Fz := by simp
  have hm3 : ∀ p ∈ Fz, p ∈ (w.heap.size + 1, nBox (l.length : Int)) :: (w.heap.size, mBox g) :: Fz := fun p hp => List.mem_cons_of_mem _ (List.mem_cons_of_mem _ hp)
  have hb2 : Below lo w ((w.alloc (mBox g)).alloc (nBox (l.length : Int))) := ((Below.refl lo w).alloc hlo _).alloc (by rw [World.size_alloc]; omega) _
  have hce : EndIs ((w.heap.size + 1, nBox (l.length : Int)) :: (w.heap.size, mBox g) :: Fz) g (.func (.func 71) #[] #[.pointer (some ⟨w.heap.size, 0, none⟩), .pointer (some ⟨w.heap.size + 1, 0, none⟩)]) (.past l.length) := ⟨_, _, hm1, hm2, rfl⟩
  have HLL : Hid ((l ++ [(op, (0 : Int))]).length = l.length + 1) := Lib.hid (by simp)
  obtain ⟨Gz, hGz⟩ : ∃ Gz, (w.heap.size + 1, nBox (l.length : Int)) :: (w.heap.size, mBox g) :: Fz = Gz := ⟨_, rfl⟩
  rw [hGz] at h2 hm1 hm2 hm3 hce
  have H2 := Lib.hid h2
  have HS := Lib.hid (mstep_any op 0 hl h2)
  have HM1 := Lib.hid hm1
  have HM3 := Lib.hid hm3
  have HCE := Lib.hid hce
  have HB2 := Lib.hid hb2
  have HE := Lib.hid he
  obtain ⟨L2, hL2⟩ : ∃ L2, l ++ [(op, (0 : Int))] = L2 := ⟨_, rfl⟩
  rw [hL2] at HS ⊢
  obtain ⟨N, hN⟩ : ∃ N, l.length = N := ⟨_, rfl⟩
  rw [hN] at hA HS HCE HB2 ⊢
  clear h h2 hm1 hm2 hm3 hce hGz hlo hb2 H2 HLL hL2 hN he
  go_enter Try.func59, Try.ntmps59
  go_wp2_with fail
  refine HS.out.mono ?_
  rintro e w3 ⟨rfl, h3, hb3⟩
  have HP := Lib.hid (mpush_any HCE.out HE.out h3)
  have HB3 := Lib.hid (HB2.out.trans hb3)
  obtain ⟨q0, lz⟩ := h3.cell HM1.out
  clear h3 hb3 HS HB2
  go_wp2_with fail
  refine HP.out.mono ?_
  rintro e w4 ⟨rfl, h4, hb4⟩
  have H4 := Lib.hid h4
  have HB4 := Lib.hid (HB3.out.trans hb4)
  clear h4 hb4 HP HB3 q0
  go_wp2_with fail
  go_end0
  exact ⟨rfl, ⟨Gz, HM3.out, H4.out⟩, HB4.out⟩
set_option maxRecDepth 100000 in
set_option maxHeartbeats 4000000 in
theorem toStart_any (op : Int) (k : Nat) (hl : l.length ≤ 3000) (hc : C.length ≤ 3000) (h : MkAt lo g w Fz l E C st) :
    Calls Try.prog 47 #[.pointer (some ⟨g, 0, none⟩), .int .i64 op, .int .i64 (k : Int)] w fun e w' => e = .returned (.tuple #[]) ∧ (∃ Gz, (∀ p ∈ Fz, p ∈ Gz) ∧ MkAt lo g w' Gz (l ++ [(op, 0)]) E (C ++ [(l.length, k)]) st) ∧ Below lo w w' := by
  obtain ⟨A, n, cap, hA, hn, p0⟩ : ∃ A n cap, w.cell? ⟨g, 0, none⟩ = some (.slice A n cap) ∧ n = l.length ∧ g < w.heap.size := by
    obtain ⟨vl, vs, ve, vc, ec, cc, h1, -⟩ := h
    obtain ⟨A, cap, rfl⟩ := own_formM h1.rl
    exact ⟨A, _, cap, h1.box.cell 0, rfl, h1.box.lt⟩
  subst hn
  have hlo := h.lows
  have h2 := ((h.hold (mBox g)).hold (nBox (k : Int))).hold (nBox (l.length : Int))
  rw [World.size_alloc, World.size_alloc] at h2
  have hm1 : (w.heap.size, mBox g) ∈ (w.heap.size + 1 + 1, nBox (l.length : Int)) :: (w.heap.size + 1, nBox (k : Int)) :: (w.heap.size, mBox g) :: Fz := by simp
  have hm3 : ∀ p ∈ Fz, p ∈ (w.heap.size + 1 + 1, nBox (l.length : Int)) :: (w.heap.size + 1, nBox (k : Int)) :: (w.heap.size, mBox g) :: Fz := fun p hp => List.mem_cons_of_mem _ (List.mem_cons_of_mem _ (List.mem_cons_of_mem _ hp))
  have hb2 : Below lo w (((w.alloc (mBox g)).alloc (nBox (k : Int))).alloc (nBox (l.length : Int))) := (((Below.refl lo w).alloc hlo _).alloc (by rw [World.size_alloc]; omega) _).alloc (by rw [World.size_alloc, World.size_alloc]; omega) _
  have hce : CallIs ((w.heap.size + 1 + 1, nBox (l.length : Int)) :: (w.heap.size + 1, nBox (k : Int)) :: (w.heap.size, mBox g) :: Fz) g (.func (.func 58) #[] #[.pointer (some ⟨w.heap.size, 0, none⟩), .pointer (some ⟨w.heap.size + 1, 0, none⟩), .pointer (some ⟨w.heap.size + 1 + 1, 0, none⟩)]) (l.length, k) := ⟨_, _, _, hm1, by simp, by simp, rfl⟩
  obtain ⟨Gz, hGz⟩ : ∃ Gz, (w.heap.size + 1 + 1, nBox (l.length : Int)) :: (w.heap.size + 1, nBox (k : Int)) :: (w.heap.size, mBox g) :: Fz = Gz := ⟨_, rfl⟩
  rw [hGz] at h2 hm1 hm3 hce
  have HS := Lib.hid (mstep_any op 0 hl h2)
  have HM1 := Lib.hid hm1
  have HM3 := Lib.hid hm3
  have HCE := Lib.hid hce
  have HB2 := Lib.hid hb2
  have HCL := Lib.hid hc
  obtain ⟨L2, hL2⟩ : ∃ L2, l ++ [(op, (0 : Int))] = L2 := ⟨_, rfl⟩
  rw [hL2] at HS ⊢
  obtain ⟨N, hN⟩ : ∃ N, l.length = N := ⟨_, rfl⟩
  rw [hN] at hA HS HCE HB2 ⊢
  obtain ⟨fv, hfv⟩ : ∃ fv, Value.func (.func 58) #[] #[.pointer (some ⟨w.heap.size, 0, none⟩), .pointer (some ⟨w.heap.size + 1, 0, none⟩), .pointer (some ⟨w.heap.size + 1 + 1, 0, none⟩)] = fv := ⟨_, rfl⟩
  rw [hfv] at HCE
  have HFV := Lib.hid hfv
  obtain ⟨i0, hi0, hz0, hz1, hz2⟩ := info_parts infoF
  clear h h2 hm1 hm3 hce hGz hlo hb2 hL2 hN hc hfv
  go_enter Try.func47, Try.ntmps47
  go_wp2_with fail
  refine HS.out.mono ?_
  rintro e w3 ⟨rfl, h3, hb3⟩
  obtain ⟨q0, lz⟩ := h3.cell HM1.out
  obtain ⟨vl, vs, ve, vc, ec, cc, h4, h5, h6⟩ := h3
  obtain ⟨A3, cap3, rfl⟩ := own_formM h4.rc
  have hcl := h6.len
  have q3 : w3.cell? ⟨g, 3, none⟩ = some (.slice A3 cc.length cap3) := h4.box.cell 3
  have lg := h4.box.lt
  have H4 := Lib.hid h4
  have H5 := Lib.hid h5
  have H6 := Lib.hid h6
  have HB3 := Lib.hid (HB2.out.trans hb3)
  have hc9 : cc.length ≤ 3000 := by have := HCL.out; omega
  obtain ⟨M, hM⟩ : ∃ M, cc.length = M := ⟨_, rfl⟩
  have HM := Lib.hid hM
  rw [hM] at q3 hc9
  clear h4 h5 h6 hb3 HS HB2 hcl hM
  obtain ⟨W, hW⟩ : ∃ W, W = (w3.alloc (.cells #[fv] 1)).drew := ⟨_, rfl⟩
  have hb9 : Below w3.heap.size w3 W := by rw [hW]; exact (below_alloc1 w3 _).drew
  have HB9 := Lib.hid (hb9.mono (show lo ≤ w3.heap.size by have := H4.out.low; omega))
  have H9 := Lib.hid (H4.out.below hb9)
  have SRC : Hid (SrcAt W 1 (.slice (some ⟨w3.heap.size, 0, none⟩) 1 1) 1 [fv]) := Lib.hid (by rw [hW]; exact src_fn w3 fv)
  have RC9 : Hid (W.ownsRow lo 1 1 (.slice A3 M cap3) M cc) := Lib.hid (by have h := H9.out.rc; rw [HM.out] at h; exact h)
  have KB9 := Lib.hid H9.out.box
  rw [HM.out] at KB9
  have HNE : Hid ((Value.slice A3 M cap3).ownBlock ≠ some g) := Lib.hid (box_neM KB9.out RC9.out (by decide))
  have HSW : Hid (lo ≤ W.heap.size) := Lib.hid (Nat.le_trans (by have := H4.out.low; omega) hb9.size)
  have HFO : Hid (∀ u ∈ [fv], u.oneCell' = true) := Lib.hid (by rw [← HFV.out]; simp [Value.oneCell'])
  have f1 : w3.frozen? ⟨g, 3, none⟩ = false := H4.out.box.frozen 3
  have e1 : M + 1 ≤ maxLen := by unfold maxLen; omega
  have e2 : (M + 1) * 8 ≤ 140737488355328 := by omega
  have KQ : Hid (∀ w5, W.grownBy w5 (Value.slice A3 M cap3).ownBlock → w5.cell? ⟨w.heap.size, 0, none⟩ = some (.pointer (some ⟨g, 0, none⟩)) ∧ w.heap.size < w5.heap.size) := Lib.hid (fun w5 hg5 => by
    have hz := H9.out.fz _ HM1.out
    rw [HM.out] at hz
    have hlt := (Array.getElem?_eq_some_iff.1 hz.1).1
    have hh := (hg5.block w.heap.size hlt (fun e => hz.2.2.2.2.2.2 e.symm)).trans hz.1
    exact ⟨by rw [cell_of_row w5 w.heap.size 0 _ _ (0, 0) hh]; rfl, Nat.lt_of_lt_of_le hlt hg5.size⟩)
  have HW := Lib.hid hW
  clear hW hb9
  go_wp2_with fail
  go_region_law (rw [HFV.out, ← HW.out]; refine step_append_src rfl _ _ 57 rfl lo 1 i0 .nilFunc 1 8 Try.underlying57 hi0 hz0 hz1 hz2 rfl (by decide) (.slice A3 M cap3) M cc rfl RC9.out (.slice (some ⟨w3.heap.size, 0, none⟩) 1 1) 1 [fv] rfl SRC.out HFO.out e1 e2 HSW.out ?_; intro v' w5 hown halt; obtain ⟨D, dc, hv⟩ := own_formM hown; subst hv; have HO5 := Lib.hid hown; have KB5 := Lib.hid (KB9.out.grown halt.out.grown (fun e => HNE.out e.symm)); clear hown; have hkq := KQ.out _ halt.out.grown; clear q3 f1 q0 lz; obtain ⟨q0, lz⟩ := hkq; have hg2 := KB5.out.lt; have q3 : w5.cell? ⟨g, 3, none⟩ = some (.slice A3 M cap3) := KB5.out.cell 3; have f1 := KB5.out.frozen 3)
  all_goals
    have KEY := Lib.hid (H9.out.putC (c2 := cc ++ [fv]) (w2 := w5) (v' := .slice D (M + 1) dc) (n := M) (m := 1) (by rw [List.length_append, HM.out]; exact HO5.out) (by have := halt.out; rw [HM.out]; exact this))
    have HE5 : Hid (MkAt lo g (w5.setCell ⟨g, 3, none⟩ (.slice D (M + 1) dc)) Gz L2 E (C ++ [(N, k)]) st ∧ Below lo w (w5.setCell ⟨g, 3, none⟩ (.slice D (M + 1) dc))) := Lib.hid ⟨⟨_, _, _, _, _, _, KEY.out.1, H5.out, H6.out.snoc HCE.out⟩, HB3.out.trans (HB9.out.trans KEY.out.2)⟩
    clear KEY
    go_wp2_with fail
    go_end0
    exact ⟨rfl, ⟨Gz, HM3.out, HE5.out.1⟩, HE5.out.2⟩
end
end Go.Proofs.Ytofikgjoiidhmaa

namespace Go.Proofs.Ytofikgjoiidhmaa
open Go.RowKit Go

section
variable {lo g : Nat} {w : World} {Fz : List (Nat × Obj)} {vl vs ve vc : Value} {l : List (Int × Int)} {st : List Int} {ec cc : List Value} {E : List Cl} {C : List (Nat × Nat)}
/-- A step's number is exchanged. -/
theorem Mk4.setL {q cap : Nat} (h : Mk4 lo g w Fz (.slice (some ⟨q, 0, none⟩) l.length cap) vs ve vc l st ec cc) {a : Nat} (ha : a < l.length) (m : Int) : Mk4 lo g (w.setCell ⟨q, a * 2 + 1, none⟩ (.int .i64 m)) Fz (.slice (some ⟨q, 0, none⟩) l.length cap) vs ve vc (l.set a (l[a].1, m)) st ec cc ∧ Below lo w (w.setCell ⟨q, a * 2 + 1, none⟩ (.int .i64 m)) := by
  have hq : (Value.slice (some ⟨q, 0, none⟩) l.length cap).ownBlock = some q := rfl
  have s1 := h.rl.stored (a * 2 + 1) (.int .i64 m)
  have hrow := s1.1
  rw [cdv_set1 ha] at hrow
  have hql := World.ownsRow.lt h.rl q hq
  have hne : q ≠ g := fun e => box_neM h.box h.rl (by decide) (by rw [hq, e])
  have far : ∀ k, k ≠ q → (w.setCell ⟨q, a * 2 + 1, none⟩ (.int .i64 m)).heap[k]? = w.heap[k]? := fun k hk => Below.heap_setCell w _ _ k hk
  have key : ∀ {base size k : Nat} {e : TypeId} {u : Value} {xs : List Value}, w.ownsRow base e size u k xs → 55 ≠ e → (w.setCell ⟨q, a * 2 + 1, none⟩ (.int .i64 m)).ownsRow base e size u k xs := fun hr hm => row_sameM hr (fun k hk => far k (fun e => types_neM h.rl hr hm q hq (by rw [hk, e])))
  refine ⟨⟨?_, ?_, key h.rs (by decide), key h.re (by decide), key h.rc (by decide), h.ap, fun p hp => ?_, h.low⟩, (Below.refl lo w).setCell (p := ⟨q, a * 2 + 1, none⟩) hql.1 _⟩
  · exact (far g (fun e => hne e.symm)).trans h.box
  · rw [List.length_set]
    exact hrow
  · have hp0 := h.fz p hp
    exact ⟨(far p.1 (fun e => hp0.2.2.2.1 (by rw [hq, e]))).trans hp0.1, hp0.2⟩
set_option maxRecDepth 100000 in
set_option maxHeartbeats 4000000 in
theorem pastend_any {bm ba a : Nat} (hm : (bm, mBox g) ∈ Fz) (ha : (ba, nBox (a : Int)) ∈ Fz) (hal : a < l.length) (hl : l.length ≤ 3000) (h : MkAt lo g w Fz l E C st) :
    Calls Try.prog 71 #[.pointer (some ⟨bm, 0, none⟩), .pointer (some ⟨ba, 0, none⟩)] w fun e w' => e = .returned (.tuple #[]) ∧ MkAt lo g w' Fz (l.set a (l[a].1, (l.length : Int))) E C st ∧ Below lo w w' := by
  obtain ⟨vl, vs, ve, vc, ec, cc, h1, h2, h3⟩ := h
  obtain ⟨q, cap, rfl, hcap, hq, hloq⟩ := own_posM h1.rl (by omega)
  have hd := h1.below (Below.refl w.heap.size w).drew
  have HM := Lib.hid (hd.setL hal (l.length : Int))
  have HE : Hid (Both (EndIs Fz g) ec E ∧ Both (CallIs Fz g) cc C) := Lib.hid ⟨h2, h3⟩
  have k0 := hd.cell hm
  have k1 := hd.cell ha
  have k2 : w.drew.cell? ⟨g, 0, none⟩ = some (.slice (some ⟨q, 0, none⟩) l.length cap) := hd.box.cell 0
  have KC0 : Hid (w.drew.cell? ⟨bm, 0, none⟩ = some (.pointer (some ⟨g, 0, none⟩)) ∧ w.drew.cell? ⟨ba, 0, none⟩ = some (.int .i64 (a : Int)) ∧ w.drew.cell? ⟨g, 0, none⟩ = some (.slice (some ⟨q, 0, none⟩) l.length cap)) := Lib.hid ⟨k0, k1, k2⟩
  have KC1 : Hid ((w.drew.setCell ⟨q, a * 2 + 1, none⟩ (.int .i64 (l.length : Int))).cell? ⟨bm, 0, none⟩ = some (.pointer (some ⟨g, 0, none⟩)) ∧ (w.drew.setCell ⟨q, a * 2 + 1, none⟩ (.int .i64 (l.length : Int))).cell? ⟨ba, 0, none⟩ = some (.int .i64 (a : Int)) ∧ (w.drew.setCell ⟨q, a * 2 + 1, none⟩ (.int .i64 (l.length : Int))).cell? ⟨g, 0, none⟩ = some (.slice (some ⟨q, 0, none⟩) l.length cap)) := Lib.hid ⟨HM.out.1.cell hm, HM.out.1.cell ha, HM.out.1.box.cell 0⟩
  have f1 : w.drew.frozen? ⟨q, a * 2 + 1, none⟩ = false := hd.rl.frozenAt (a * 2 + 1)
  obtain ⟨u1, c1⟩ : ∃ u, w.drew.cell? ⟨q, a * 2 + 1, none⟩ = some u := ⟨_, (hd.rl.cellAt (a * 2 + 1) (by omega)).trans (cdv_get1 hal)⟩
  have lb : bm < w.heap.size := (Array.getElem?_eq_some_iff.1 (h1.fz _ hm).1).1
  have la : ba < w.heap.size := (Array.getElem?_eq_some_iff.1 (h1.fz _ ha).1).1
  have lg := h1.box.lt
  have i1 : (0 : Int) ≤ (a : Int) := by omega
  have i2 : (a : Int) < (l.length : Int) := by omega
  obtain ⟨L2, hL2⟩ : ∃ L2, l.set a (l[a].1, (l.length : Int)) = L2 := ⟨_, rfl⟩
  rw [hL2] at HM ⊢
  have HB0 := Lib.hid ((Below.refl lo w).drew)
  obtain ⟨N, hN⟩ : ∃ N, l.length = N := ⟨_, rfl⟩
  rw [hN] at HM KC0 KC1 i2 hl hcap
  clear h1 h2 h3 hd k0 k1 k2 hL2 hN hm ha hal hloq
  go_enter Try.func71, Try.ntmps71
  go_wp2_with fail
  go_region_held3 (fun w' => w'.cell? ⟨bm, 0, none⟩ = some (.pointer (some ⟨g, 0, none⟩)) ∧ w'.cell? ⟨ba, 0, none⟩ = some (.int .i64 (a : Int)) ∧ w'.cell? ⟨g, 0, none⟩ = some (.slice (some ⟨q, 0, none⟩) N cap)) (first | exact KC0.out | exact KC1.out) (fail)
  all_goals
    go_wp2_with fail
    go_end0
    exact ⟨rfl, ⟨_, _, _, _, _, _, HM.out.1, HE.out.1, HE.out.2⟩, HB0.out.trans HM.out.2⟩
set_option maxRecDepth 100000 in
set_option maxHeartbeats 4000000 in
theorem startend4 {bm bk ba a k : Nat} (hm : (bm, mBox g) ∈ Fz) (hk : (bk, nBox (k : Int)) ∈ Fz) (ha : (ba, nBox (a : Int)) ∈ Fz) (hal : a < l.length) (hkl : k < st.length) (hst : st.length ≤ 3000) (hl : l.length ≤ 3000) (h1 : Mk4 lo g w Fz vl vs ve vc l st ec cc) :
    Calls Try.prog 58 #[.pointer (some ⟨bm, 0, none⟩), .pointer (some ⟨bk, 0, none⟩), .pointer (some ⟨ba, 0, none⟩)] w fun e w' => e = .returned (.tuple #[]) ∧ Mk4 lo g w' Fz vl vs ve vc (l.set a (l[a].1, st[k])) st ec cc ∧ Below lo w w' := by
  obtain ⟨q, cap, rfl, hcap, hq, hloq⟩ := own_posM h1.rl (by omega)
  obtain ⟨q1, cap1, rfl, hcap1, hq1, hloq1⟩ := own_posM h1.rs (by omega)
  have hd := h1.below (Below.refl w.heap.size w).drew
  have HM := Lib.hid (hd.setL hal st[k])
  have s0 : ∀ W, Mk4 lo g W Fz (.slice (some ⟨q, 0, none⟩) l.length cap) (.slice (some ⟨q1, 0, none⟩) st.length cap1) ve vc (l.set a (l[a].1, st[k])) st ec cc ∨ Mk4 lo g W Fz (.slice (some ⟨q, 0, none⟩) l.length cap) (.slice (some ⟨q1, 0, none⟩) st.length cap1) ve vc l st ec cc → W.cell? ⟨bm, 0, none⟩ = some (.pointer (some ⟨g, 0, none⟩)) ∧ W.cell? ⟨bk, 0, none⟩ = some (.int .i64 (k : Int)) ∧ W.cell? ⟨ba, 0, none⟩ = some (.int .i64 (a : Int)) ∧ W.cell? ⟨g, 0, none⟩ = some (.slice (some ⟨q, 0, none⟩) l.length cap) ∧ W.cell? ⟨g, 1, none⟩ = some (.slice (some ⟨q1, 0, none⟩) st.length cap1) ∧ W.cell? ⟨q1, k, none⟩ = some (.int .i64 st[k]) := fun W hW => by
    have hst : ∀ {xs : List (Int × Int)}, Mk4 lo g W Fz (.slice (some ⟨q, 0, none⟩) l.length cap) (.slice (some ⟨q1, 0, none⟩) st.length cap1) ve vc xs st ec cc → W.cell? ⟨q1, k, none⟩ = some (.int .i64 st[k]) := fun hx => by
      rw [hx.rs.cellAt k (by omega), List.getElem?_map, List.getElem?_eq_getElem hkl]
      rfl
    rcases hW with hx | hx
    · exact ⟨hx.cell hm, hx.cell hk, hx.cell ha, hx.box.cell 0, hx.box.cell 1, hst hx⟩
    · exact ⟨hx.cell hm, hx.cell hk, hx.cell ha, hx.box.cell 0, hx.box.cell 1, hst hx⟩
  have KC0 := Lib.hid (s0 _ (.inr hd))
  have KC1 := Lib.hid (s0 _ (.inl HM.out.1))
  have f1 : w.drew.frozen? ⟨q, a * 2 + 1, none⟩ = false := hd.rl.frozenAt (a * 2 + 1)
  obtain ⟨u1, c1⟩ : ∃ u, w.drew.cell? ⟨q, a * 2 + 1, none⟩ = some u := ⟨_, (hd.rl.cellAt (a * 2 + 1) (by omega)).trans (cdv_get1 hal)⟩
  have lb : bm < w.heap.size := (Array.getElem?_eq_some_iff.1 (h1.fz _ hm).1).1
  have lk : bk < w.heap.size := (Array.getElem?_eq_some_iff.1 (h1.fz _ hk).1).1
  have la : ba < w.heap.size := (Array.getElem?_eq_some_iff.1 (h1.fz _ ha).1).1
  have lg := h1.box.lt
  have i1 : (0 : Int) ≤ (a : Int) := by omega
  have i2 : (a : Int) < (l.length : Int) := by omega
  have i3 : (0 : Int) ≤ (k : Int) := by omega
  have i4 : (k : Int) < (st.length : Int) := by omega
  obtain ⟨sk, hsk⟩ : ∃ sk, st[k] = sk := ⟨_, rfl⟩
  rw [hsk] at HM KC0 KC1 ⊢
  obtain ⟨L2, hL2⟩ : ∃ L2, l.set a (l[a].1, sk) = L2 := ⟨_, rfl⟩
  rw [hL2] at HM ⊢
  have HB0 := Lib.hid ((Below.refl lo w).drew)
  obtain ⟨N, hN⟩ : ∃ N, l.length = N := ⟨_, rfl⟩
  obtain ⟨M, hM2⟩ : ∃ M, st.length = M := ⟨_, rfl⟩
  rw [hN, hM2] at HM KC0 KC1 ⊢
  rw [hN] at i2 hl hcap
  rw [hM2] at i4 hst hcap1
  clear h1 hd s0 hL2 hN hM2 hm ha hk hal hkl hloq hloq1 hsk
  go_enter Try.func58, Try.ntmps58
  go_wp2_with fail
  go_region_held3 (fun w' => w'.cell? ⟨bm, 0, none⟩ = some (.pointer (some ⟨g, 0, none⟩)) ∧ w'.cell? ⟨bk, 0, none⟩ = some (.int .i64 (k : Int)) ∧ w'.cell? ⟨ba, 0, none⟩ = some (.int .i64 (a : Int)) ∧ w'.cell? ⟨g, 0, none⟩ = some (.slice (some ⟨q, 0, none⟩) N cap) ∧ w'.cell? ⟨g, 1, none⟩ = some (.slice (some ⟨q1, 0, none⟩) M cap1) ∧ w'.cell? ⟨q1, k, none⟩ = some (.int .i64 sk)) (first | exact KC0.out | exact KC1.out) (fail)
  all_goals
    go_wp2_with fail
    go_end0
    exact ⟨rfl, HM.out.1, HB0.out.trans HM.out.2⟩
set_option maxRecDepth 100000 in
set_option maxHeartbeats 2000000 in
theorem againend_any {bm ba a : Nat} (hm : (bm, mBox g) ∈ Fz) (ha : (ba, nBox (a : Int)) ∈ Fz) (hl : l.length ≤ 3000) (h : MkAt lo g w Fz l E C st) :
    Calls Try.prog 61 #[.pointer (some ⟨bm, 0, none⟩), .pointer (some ⟨ba, 0, none⟩)] w fun e w' => e = .returned (.tuple #[]) ∧ MkAt lo g w' Fz (l ++ [(7, (a : Int))]) E C st ∧ Below lo w w' := by
  have HS := Lib.hid (mstep_any 7 (a : Int) hl h)
  obtain ⟨q0, lz⟩ := h.cell hm
  obtain ⟨q1, ly⟩ := h.cell ha
  obtain ⟨L2, hL2⟩ : ∃ L2, l ++ [(7, (a : Int))] = L2 := ⟨_, rfl⟩
  rw [hL2] at HS ⊢
  clear h hm ha hL2
  go_enter Try.func61, Try.ntmps61
  go_wp2_with fail
  refine HS.out.mono ?_
  rintro e w3 ⟨rfl, h3, hb3⟩
  have H3 := Lib.hid h3
  have HB3 := Lib.hid hb3
  clear h3 hb3 HS q0 q1
  go_wp2_with fail
  go_end0
  exact ⟨rfl, H3.out, HB3.out⟩
end
end Go.Proofs.Ytofikgjoiidhmaa
