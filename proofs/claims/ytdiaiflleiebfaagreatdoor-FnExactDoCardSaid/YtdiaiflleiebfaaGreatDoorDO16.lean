/-
  What a word makes on a bench.
  How great a state is behind a word.
-/
import Derived.Test.YtdiaiflleiebfaaGreatDoorDO9
import Derived.Test.YtdiaiflleiebfaaGreatDoorDO10
import Derived.Test.YtdiaiflleiebfaaGreatDoorDO12
namespace Go.Proofs.YtdiaiflleiebfaaGreatDoor
open Go.RowKit Go

/-- Nothing but the blocks of P (and new ones) has changed. -/
structure Chg (w w' : World) (P : Nat → Prop) : Prop where
  os : w'.os = w.os
  tape : w'.tape = w.tape
  output : w'.output = w.output
  size : w.heap.size ≤ w'.heap.size
  block : ∀ k, k < w.heap.size → ¬ P k → w'.heap[k]? = w.heap[k]?
theorem Chg.refl (w : World) (P : Nat → Prop) : Chg w w P := ⟨rfl, rfl, rfl, Nat.le_refl _, fun _ _ _ => rfl⟩
theorem Chg.trans {a b c : World} {P : Nat → Prop} (h : Chg a b P) (k : Chg b c P) : Chg a c P :=
  ⟨k.os.trans h.os, k.tape.trans h.tape, k.output.trans h.output, Nat.le_trans h.size k.size, fun i hi hn => (k.block i (Nat.lt_of_lt_of_le hi h.size) hn).trans (h.block i hi hn)⟩
theorem Chg.weaken {w w' : World} {P Q : Nat → Prop} (h : Chg w w' P) (hq : ∀ k, k < w.heap.size → P k → Q k) : Chg w w' Q := ⟨h.os, h.tape, h.output, h.size, fun k hk hn => h.block k hk (fun hp => hn (hq k hk hp))⟩
theorem Chg.of_below {w w' : World} {P : Nat → Prop} (h : Below w.heap.size w w') : Chg w w' P := ⟨h.os, h.tape, h.output, h.size, fun k hk _ => h.block k hk⟩
theorem Chg.of_grown {w w' : World} {P : Nat → Prop} {row : Option Nat} (h : w.grownBy w' row) (hr : ∀ k, row = some k → P k) : Chg w w' P := ⟨h.os, h.tape, h.output, h.size, fun k hk hn => h.block k hk (fun e => hn (hr k e.symm))⟩
theorem Chg.set {w w' : World} {P : Nat → Prop} (h : Chg w w' P) {p : Addr} (hp : P p.block) (u : Value) : Chg w (w'.setCell p u) P :=
  ⟨h.os, h.tape, h.output, by simpa [World.setCell] using h.size, fun k hk hn => (Below.heap_setCell w' p u k (by rintro rfl; exact hn hp)).trans (h.block k hk hn)⟩
theorem Chg.alloc {w w' : World} {P : Nat → Prop} (h : Chg w w' P) (o : Obj) : Chg w (w'.alloc o) P := h.trans (.of_below (below_alloc w' o))
theorem Chg.blk {w w' : World} {P : Nat → Prop} {g : Nat} {t : TypeId} {cs : Array Value} (h : Chg w w' P) (hk : Blk w g t cs) (hg : ¬ P g) : Blk w' g t cs := (h.block g hk.lt hg).trans hk
theorem Chg.own {w w' : World} {P : Nat → Prop} (h : Chg w w' P) {base size : Nat} {e : TypeId} {v : Value} {n : Nat} {xs : List Value} (ho : w.ownsRow base e size v n xs) (hp : ∀ k, v.ownBlock = some k → ¬ P k) : w'.ownsRow base e size v n xs :=
  own_same ho fun k hk => h.block k (World.ownsRow.lt ho k hk).2 (hp k hk)
theorem Chg.ownT {w w' : World} {P : Nat → Prop} (h : Chg w w' P) {base : Nat} {e : TypeId} {v : Value} {n : Nat} {xs : List Value} (ho : TailB w base e v n xs) (hp : ∀ k, v.ownBlock = some k → ¬ P k) : TailB w' base e v n xs :=
  tail_same ho fun k hk => h.block k (ho.lt k hk).2 (hp k hk)
theorem Chg.ownst {w w' : World} {P : Nat → Prop} (h : Chg w w' P) {lo hi : Nat} {d r m c v o i : Value} {S : S8} (ho : OwnSt w lo hi d r m c v o i S) (hp : ∀ x ∈ [d, r, m, c, v, o, i], ∀ k, x.ownBlock = some k → ¬ P k) : OwnSt w' lo hi d r m c v o i S :=
  ⟨ho.top, ho.dm, ho.oi, h.own ho.d (hp d (by simp)), h.own ho.r (hp r (by simp)), h.own ho.m (hp m (by simp)), h.own ho.c (hp c (by simp)), h.own ho.v (hp v (by simp)), h.own ho.o (hp o (by simp)), h.ownT ho.i (hp i (by simp))⟩
/-- A box is none of a state's rows. -/
theorem box_out {w : World} {lo hi g : Nat} {t : TypeId} {cs : Array Value} {d r m c v o i : Value} {S : S8} (ho : OwnSt w lo hi d r m c v o i S) (hk : Blk w g t cs) (h1 : t ≠ 21) (h2 : t ≠ 69) (h3 : t ≠ 36) (h4 : t ≠ 3) (h5 : t ≠ 5) : ∀ x ∈ [d, r, m, c, v, o, i], ∀ k, x.ownBlock = some k → ¬ k = g := by
  intro x hx k hk2 e
  subst e
  simp only [List.mem_cons, List.not_mem_nil, or_false] at hx
  rcases hx with rfl | rfl | rfl | rfl | rfl | rfl | rfl
  · exact box_neG hk ho.d h1 hk2.symm
  · exact box_neG hk ho.r h2 hk2.symm
  · exact box_neG hk ho.m h1 hk2.symm
  · exact box_neG hk ho.c h3 hk2.symm
  · exact box_neG hk ho.v h4 hk2.symm
  · exact box_neG hk ho.o h5 hk2.symm
  · exact box_neT hk ho.i h5 hk2.symm
/-- Where what was put lies: in the row itself, or in new memory. -/
def PutAlt (w w' : World) (g : Nat) (v v' : Value) (n n2 : Nat) : Prop :=
  (∃ q cap, v = .slice (some ⟨q, 0, none⟩) n cap ∧ v' = .slice (some ⟨q, 0, none⟩) n2 cap ∧ n2 ≤ cap ∧ Chg w w' (fun k => k = g ∨ k = q)) ∨ (Chg w w' (fun k => k = g) ∧ ∀ k, v'.ownBlock = some k → w.heap.size ≤ k)
/-- Numbers have been told: the bench's box, the row. -/
def Told (lo g : Nat) (w : World) (v : Value) (n : Nat) (X : List Int) (x1 x2 x3 x4 x5 x6 x7 x8 x9 : Value) (e : Ending) (w' : World) : Prop :=
  ∃ v', e = .returned (.int .i64 (if 16 < X.length then 2 else 0)) ∧ Blk w' g 152 #[v', x1, x2, x3, x4, x5, x6, x7, x8, x9] ∧ w'.ownsRow lo 21 1 v' X.length (X.map iv) ∧ PutAlt w w' g v v' n X.length
/-- What a word's own function makes on a bench: a fault, the rows as they were; or the next state. -/
def BenchEnd (w : World) (g lo hi : Nat) (d r m c v o i : Value) (S : S8) (res : Int ⊕ S8) (e : Ending) (w' : World) : Prop :=
  Chg w w' (fun k => k = g ∨ (lo ≤ k ∧ k < hi)) ∧
  match res with
  | .inl f => e = .returned (.int .i64 f) ∧ f ≠ 0 ∧ OwnSt w' lo hi d r m c v o i S
  | .inr T => e = .returned (.int .i64 0) ∧ ∃ d' r' m' c' v' o' i', Blk w' g 152 #[d', r', .int .i32 T.a, m', c', v', o', i', .int .i64 T.fault, .int .i64 T.fuel] ∧ OwnSt w' lo w'.heap.size d' r' m' c' v' o' i' T
theorem told_end {w w1 w' : World} {g lo hi : Nat} {A : Option Addr} {cap n : Nat} {d r m c v o i r2 m2 c2 v2 o2 i2 : Value} {S S2 : S8} {t : Nat} {l : List Int} {e : Ending}
    (hc : Chg w w1 (fun k => k = g)) (hhi : hi ≤ w.heap.size) (hd : d = .slice A S.data.length cap) (hdd : S2.data = S.data) (hn : S.data.length - t = n)
    (ho : OwnSt w1 lo hi d r m c v o i S) (ho2 : OwnSt w1 lo hi d r2 m2 c2 v2 o2 i2 S2) (hbox : ∃ t cs, Blk w1 g t cs ∧ t = 152)
    (hsame : 16 < n + l.length → (S.data.take n ++ l).take S.data.length = S.data ∧ S.data.length ≤ n + l.length)
    (T : Told lo g w1 (.slice A n cap) n (S.data.take n ++ l) r2 (.int .i32 S2.a) m2 c2 v2 o2 i2 (.int .i64 S2.fault) (.int .i64 S2.fuel) e w') : BenchEnd w g lo hi d r m c v o i S (put8 S2 t l) e w' := by
  subst hd
  obtain ⟨v', rfl, hB, hO, hA⟩ := T
  obtain ⟨tb, cs, hk, rfl⟩ := hbox
  have hlen : (S.data.take n ++ l).length = n + l.length := by simp; omega
  have hob : ∀ k, (Value.slice A n cap).ownBlock = some k → (Value.slice A S.data.length cap).ownBlock = some k := fun k hk => by rw [← hk]; exact own_block
  have hrow : ∀ k, (Value.slice A S.data.length cap).ownBlock = some k → lo ≤ k ∧ k < hi := fun k hk => ⟨own_lt ho.d k hk, ho.top _ (by simp) k hk⟩
  have hbo := box_out ho hk (by decide) (by decide) (by decide) (by decide) (by decide)
  have hbo2 := box_out ho2 hk (by decide) (by decide) (by decide) (by decide) (by decide)
  have hchg : Chg w w' (fun k => k = g ∨ (lo ≤ k ∧ k < hi)) := by
    refine (hc.weaken fun k _ h => .inl h).trans ?_
    rcases hA with ⟨q, cp, e1, e2, -, h⟩ | ⟨h, -⟩
    · refine h.weaken fun k _ h2 => ?_
      rcases h2 with h2 | rfl
      · exact .inl h2
      · exact .inr (hrow k (hob k (by rw [e1]; rfl)))
    · exact h.weaken fun k _ h2 => .inl h2
  by_cases h16 : 16 < n + l.length
  · have hp : put8 S2 t l = .inl 2 := by unfold put8; rw [hdd, hn, if_pos h16]
    rw [hp]
    refine ⟨hchg, by rw [hlen, if_pos h16], by decide, ?_⟩
    obtain ⟨hs, hsl⟩ := hsame h16
    rcases hA with ⟨q, cp, e1, rfl, -, h⟩ | ⟨h, -⟩
    · injection e1 with e1 e2 e3
      subst e1 e3
      have hne : ∀ x ∈ [r, m, c, v, o, i], ∀ k, x.ownBlock = some k → ¬ (k = g ∨ k = q) := by
        intro x hx k hk2 hh
        rcases hh with hh | rfl
        · exact hbo x (List.mem_cons_of_mem _ hx) k hk2 hh
        · simp only [List.mem_cons, List.not_mem_nil, or_false] at hx
          have key : ∀ {e2 : TypeId} {s2 n2 : Nat} {xs : List Value}, w1.ownsRow lo e2 s2 x n2 xs → e2 ≠ 21 → False := fun h1 h2 => by
            rcases rows_ne h1 ho.d h2 with h3 | h3
            · rw [h3] at hk2; cases hk2
            · exact h3 (by rw [hk2]; rfl)
          rcases hx with rfl | rfl | rfl | rfl | rfl | rfl
          · exact key ho.r (by decide)
          · rcases apart_sym ho.dm with h3 | h3
            · rw [h3] at hk2; cases hk2
            · exact h3 (by rw [hk2]; rfl)
          · exact key ho.c (by decide)
          · exact key ho.v (by decide)
          · exact key ho.o (by decide)
          · rcases tail_ne ho.i ho.d (by decide) with h3 | h3
            · rw [h3] at hk2; cases hk2
            · exact h3 (by rw [hk2]; rfl)
      have hdrow : w'.ownsRow lo 21 1 (.slice (some ⟨q, 0, none⟩) S.data.length cap) S.data.length (S.data.map iv) := by
        have h2 := own_prefix (n := S.data.length) hO (by rw [hlen]; exact hsl)
        rw [← List.map_take, hs] at h2
        exact h2
      exact ⟨ho.top, ho.dm, ho.oi, hdrow, h.own ho.r (hne r (by simp)), h.own ho.m (hne m (by simp)), h.own ho.c (hne c (by simp)), h.own ho.v (hne v (by simp)), h.own ho.o (hne o (by simp)), h.ownT ho.i (hne i (by simp))⟩
    · exact h.ownst ho hbo
  · have hp : put8 S2 t l = .inr { S2 with data := S.data.take n ++ l } := by unfold put8; rw [hdd, hn, if_neg h16]
    rw [hp]
    refine ⟨hchg, by rw [hlen, if_neg h16], v', r2, m2, c2, v2, o2, i2, hB, ?_⟩
    have hsz : hi ≤ w1.heap.size := Nat.le_trans hhi hc.size
    have hne : ∀ x ∈ [r2, m2, c2, v2, o2, i2], ∀ k, x.ownBlock = some k → ¬ (k = g ∨ (Value.slice A S.data.length cap).ownBlock = some k) := by
      intro x hx k hk2 hh
      rcases hh with hh | hh
      · exact hbo2 x (List.mem_cons_of_mem _ hx) k hk2 hh
      · simp only [List.mem_cons, List.not_mem_nil, or_false] at hx
        have key : ∀ {e2 : TypeId} {s2 n2 : Nat} {xs : List Value}, w1.ownsRow lo e2 s2 x n2 xs → e2 ≠ 21 → False := fun h1 h2 => by
          rcases rows_ne h1 ho2.d h2 with h3 | h3
          · rw [h3] at hk2; cases hk2
          · exact h3 (by rw [hk2, hh])
        rcases hx with rfl | rfl | rfl | rfl | rfl | rfl
        · exact key ho2.r (by decide)
        · rcases apart_sym ho2.dm with h3 | h3
          · rw [h3] at hk2; cases hk2
          · exact h3 (by rw [hk2, hh])
        · exact key ho2.c (by decide)
        · exact key ho2.v (by decide)
        · exact key ho2.o (by decide)
        · rcases tail_ne ho2.i ho2.d (by decide) with h3 | h3
          · rw [h3] at hk2; cases hk2
          · exact h3 (by rw [hk2, hh])
    have hch : Chg w1 w' (fun k => k = g ∨ (Value.slice A S.data.length cap).ownBlock = some k) := by
      rcases hA with ⟨q, cp, e1, -, -, h⟩ | ⟨h, -⟩
      · refine h.weaken fun k _ h2 => ?_
        rcases h2 with h2 | rfl
        · exact .inl h2
        · exact .inr (hob k (by rw [e1]; rfl))
      · exact h.weaken fun k _ h2 => .inl h2
    refine OwnSt.of7T (S := { S2 with data := S.data.take n ++ l }) hO (hch.own ho2.r (hne r2 (by simp))) (hch.own ho2.m (hne m2 (by simp))) (hch.own ho2.c (hne c2 (by simp))) (hch.own ho2.v (hne v2 (by simp))) (hch.own ho2.o (hne o2 (by simp))) (hch.ownT ho2.i (hne i2 (by simp))) ?_ ho2.oi
    cases hq : v'.ownBlock with
    | none => exact .inl rfl
    | some k =>
      refine .inr fun e => ?_
      rcases hA with ⟨q, cp, e1, rfl, -, h⟩ | ⟨-, h⟩
      · have hkq : q = k := by simpa [Value.ownBlock] using hq
        subst hkq
        exact hne m2 (by simp) q e.symm (.inr (hob q (by rw [e1]; rfl)))
      · have h1 := h k hq
        have h2 := ho2.top m2 (by simp) k e.symm
        omega
end Go.Proofs.YtdiaiflleiebfaaGreatDoor

namespace Go.Proofs.YtdiaiflleiebfaaGreatDoor
open Go.RowKit Go

/-- What a word has changed lies behind what was there. -/
theorem chg_far {w W W2 : World} {g lo hi : Nat} (h1 : Below w.heap.size w W) (hg : w.heap.size ≤ g) (h2 : Chg W W2 (fun k => k = g ∨ (lo ≤ k ∧ k < hi))) : Chg w W2 (fun k => lo ≤ k ∧ k < hi) :=
  ⟨h2.os.trans h1.os, h2.tape.trans h1.tape, h2.output.trans h1.output, Nat.le_trans h1.size h2.size, fun k hk hn => (h2.block k (Nat.lt_of_lt_of_le hk h1.size) (by rintro (h | h); omega; exact hn h)).trans (h1.block k hk)⟩
theorem chg_below {w W W2 : World} {lo hi : Nat} (h1 : Below w.heap.size w W) (hl : w.heap.size ≤ lo) (h2 : Chg W W2 (fun k => lo ≤ k ∧ k < hi)) : Below w.heap.size w W2 :=
  ⟨h2.os.trans h1.os, h2.tape.trans h1.tape, h2.output.trans h1.output, Nat.le_trans h1.size h2.size, fun k hk => (h2.block k (Nat.lt_of_lt_of_le hk h1.size) (by omega)).trans (h1.block k hk)⟩
theorem inl_tot {S : S8} (hs : totSt S ≤ 2500000) (f : Int) : totSt (fin8 S (.inl f)) ≤ 4000000 := Nat.le_trans hs (by omega)
theorem put8_tot2 {S S2 : S8} {t : Nat} {l : List Int} (hs : totSt S ≤ 2500000) (hs2 : totSt S2 ≤ 2500000) : totSt (fin8 S (put8 S2 t l)) ≤ 4000000 := by
  unfold put8
  split
  · exact inl_tot hs _
  · exact (put8_tot (S := S2) (t := t) (l := l) hs2 |> fun h => by
      unfold put8 at h
      split at h
      · contradiction
      · exact h)
theorem say8_tot {S : S8} {b : List Nat} (hs : totSt S ≤ 2500000) : totSt (fin8 S (say8 S b)) ≤ 4000000 := by
  unfold say8
  split
  · exact inl_tot hs _
  · rename_i h
    unfold totSt at hs
    unfold fin8 drop8 totSt
    simp only [List.length_append, List.length_take]
    omega
theorem prim8_tot (k : Nat) {S : S8} (x y : Int) (hs : totSt S ≤ 2500000) : totSt (fin8 S (prim8 k S x y)) ≤ 4000000 := by
  have hd : ∀ t, totSt (drop8 S t) ≤ totSt S := fun t => by
    unfold drop8 totSt
    simp only [List.length_take]
    omega
  have hm : ∀ t, (drop8 S t).mem = S.mem := fun _ => rfl
  have hc : ∀ t, (drop8 S t).cells = S.cells := fun _ => rfl
  have hrr : ∀ t, (drop8 S t).ret = S.ret := fun _ => rfl
  unfold prim8
  split
  · split
    · exact inl_tot hs _
    · exact put8_tot hs
  · split
    · exact put8_tot hs
    · split
      · exact put8_tot hs
      · exact inl_tot hs _
  · split
    · have := hd 2
      unfold totSt at this hs ⊢
      unfold fin8
      rw [hm] at this
      simp only [List.length_set]
      omega
    · split
      · have := hd 2
        unfold totSt at this hs ⊢
        unfold fin8
        rw [hc] at this
        simp only [List.length_set]
        omega
      · exact inl_tot hs _
  · exact put8_tot hs
  · have := hd 1
    unfold totSt at this hs ⊢
    unfold fin8
    simp only
    omega
  · exact say8_tot hs
  · split
    · exact put8_tot hs
    · rename_i b r hb
      refine put8_tot2 hs ?_
      unfold totSt at hs ⊢
      simp only [hb, List.length_cons] at hs ⊢
      omega
  · split
    · exact inl_tot hs _
    · have := hd 1
      unfold totSt at this hs ⊢
      unfold fin8
      rw [hrr] at this
      simp only [List.length_append, List.length_cons, List.length_nil]
      omega
  · split
    · exact inl_tot hs _
    · split
      · refine put8_tot2 hs ?_
        unfold totSt at hs ⊢
        simp only [List.length_dropLast] at hs ⊢
        omega
      · exact inl_tot hs _
  · split
    · exact inl_tot hs _
    · split
      · exact inl_tot hs _
      · exact put8_tot hs
  · exact say8_tot hs
  · exact put8_tot hs
theorem word8_tot {S : S8} {k : Int} (hs : totSt S ≤ 2500000) : totSt (fin8 S (word8 S k)) ≤ 4000000 := by
  unfold word8
  split
  · exact inl_tot hs _
  · split
    · exact inl_tot hs _
    · exact prim8_tot _ _ _ hs
theorem do8_tot (S : S8) (k : Int) (hs : totSt S ≤ 2500000) : totSt (do8 S k) ≤ 4000000 := by
  unfold do8
  split
  · split
    · exact word8_tot hs
    · exact Nat.le_trans hs (by omega)
  · exact Nat.zero_le _
end Go.Proofs.YtdiaiflleiebfaaGreatDoor
