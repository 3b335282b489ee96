/-
  A list whose block may hold other cells ahead of it: what is left of bytes when some have been read.
-/
import Derived.Test.YtlkkobffgbjkpaaB8
namespace Go.Proofs.Ytlkkobffgbjkpaa
open Go.RowKit Go

/-- A row of elements of one cell, which may begin behind others in its block. -/
def TailB (w : World) (base : Nat) (e : TypeId) (v : Value) (n : Nat) (xs : List Value) : Prop :=
  xs.length = n ∧ ((v = .slice none 0 0 ∧ n = 0) ∨ ∃ g s cap cur, v = .slice (some ⟨g, s, none⟩) n cap ∧ base ≤ g ∧ w.heap[g]? = some (.cells cur e (0, 0)) ∧ n ≤ cap ∧ cap ≤ maxLen ∧ s + n ≤ cur.size ∧ (cur.toList.drop s).take n = xs)
section
variable {w w' : World} {base : Nat} {e : TypeId} {v : Value} {n : Nat} {xs : List Value}
theorem TailB.of_own (h : w.ownsRow base e 1 v n xs) : TailB w base e v n xs := by
  have hl := h.1
  refine ⟨by omega, ?_⟩
  rcases h.2 with h0 | ⟨g, cap, cur, rfl, h1, h2, h3, h4, h5, h6⟩
  · exact .inl h0
  · exact .inr ⟨g, 0, cap, cur, rfl, h1, h2, h3, h4, by omega, by rw [List.drop_zero]; rw [Nat.mul_one] at h6; exact h6⟩
theorem TailB.lt (h : TailB w base e v n xs) : ∀ k, v.ownBlock = some k → base ≤ k ∧ k < w.heap.size := by
  intro k hk
  rcases h.2 with ⟨rfl, _⟩ | ⟨g, s, cap, cur, rfl, hb, hg, _⟩
  · simp [Value.ownBlock] at hk
  · simp [Value.ownBlock] at hk
    subst hk
    exact ⟨hb, (Array.getElem?_eq_some_iff.1 hg).1⟩
theorem tail_lt (h : TailB w base e v n xs) : ∀ k, v.ownBlock = some k → base ≤ k := fun k hk => (h.lt k hk).1
theorem tail_same (h : TailB w base e v n xs) (hb : ∀ k, v.ownBlock = some k → w'.heap[k]? = w.heap[k]?) : TailB w' base e v n xs := by
  refine ⟨h.1, ?_⟩
  rcases h.2 with h0 | ⟨g, s, cap, cur, rfl, h1, h2, h3⟩
  · exact .inl h0
  · exact .inr ⟨g, s, cap, cur, rfl, h1, (hb g rfl).trans h2, h3⟩
theorem TailB.kept {row : Option Nat} (h : TailB w base e v n xs) (hg : w.grownBy w' row) (hne : v.ownBlock = none ∨ v.ownBlock ≠ row) : TailB w' base e v n xs :=
  tail_same h fun k hk => hg.block k (h.lt k hk).2 (by
    rcases hne with h1 | h1
    · rw [h1] at hk; cases hk
    · rw [hk] at h1; exact h1)
theorem TailB.alloc (h : TailB w base e v n xs) (o : Obj) : TailB (w.alloc o) base e v n xs :=
  h.kept (World.grownBy_alloc w o none) (by cases hv : v.ownBlock <;> simp)
theorem TailB.mono {base' : Nat} (h : TailB w base e v n xs) (hb : base' ≤ base) : TailB w base' e v n xs := by
  refine ⟨h.1, ?_⟩
  rcases h.2 with h0 | ⟨g, s, cap, cur, rfl, h1, h3⟩
  · exact .inl h0
  · exact .inr ⟨g, s, cap, cur, rfl, Nat.le_trans hb h1, h3⟩
/-- A tail and a row of unlike elements lie apart. -/
theorem tail_ne {b2 s2 n2 : Nat} {e2 : TypeId} {u : Value} {ys : List Value} (h1 : TailB w base e v n xs) (h2 : w.ownsRow b2 e2 s2 u n2 ys) (he : e ≠ e2) : v.ownBlock = none ∨ v.ownBlock ≠ u.ownBlock := by
  rcases h1.2 with ⟨rfl, -⟩ | ⟨g, s, cap, cur, rfl, -, hg, -⟩
  · exact .inl rfl
  · rcases h2.2 with ⟨rfl, -⟩ | ⟨q, cap2, cur2, rfl, -, hq, -⟩
    · exact .inr (by simp [Value.ownBlock])
    · refine .inr fun e => ?_
      have e : g = q := by simpa [Value.ownBlock] using e
      subst e
      rw [hg] at hq
      injection hq with h1
      injection h1 with _ h2
      exact he h2
theorem ne_tail {b2 s2 n2 : Nat} {e2 : TypeId} {u : Value} {ys : List Value} (h2 : w.ownsRow b2 e2 s2 u n2 ys) (h1 : TailB w base e v n xs) (he : e2 ≠ e) : u.ownBlock = none ∨ u.ownBlock ≠ v.ownBlock := by
  rcases tail_ne h1 h2 (fun h => he h.symm) with h | h
  · cases hq : u.ownBlock with
    | none => exact .inl rfl
    | some k => exact .inr (by rw [h]; simp)
  · exact .inr fun e => h e.symm
theorem box_neT {g : Nat} {t : TypeId} {cs : Array Value} (hk : Blk w g t cs) (ho : TailB w base e v n xs) (ht : t ≠ e) : some g ≠ v.ownBlock := by
  rcases ho.2 with ⟨rfl, -⟩ | ⟨q, s, cap, cur, rfl, -, hq, -⟩
  · simp [Value.ownBlock]
  · intro h
    have h : g = q := by simpa [Value.ownBlock] using h
    subst h
    unfold Blk at hk
    rw [hk] at hq
    injection hq with h1
    injection h1 with _ h2
    exact ht h2
theorem tail_form (h : TailB w base e v n xs) : ∃ A cap, v = .slice A n cap := by
  rcases h.2 with ⟨rfl, h0⟩ | ⟨g, s, cap, cur, rfl, -⟩
  · exact ⟨none, 0, by rw [h0]⟩
  · exact ⟨_, _, rfl⟩
/-- The first k are left behind: as a slice of it, from k on, is told. -/
theorem TailB.drop {A : Option Addr} {cap : Nat} (h : TailB w base e (.slice A n cap) n xs) (k : Nat) (hk : k ≤ n) : TailB w base e (.slice (if cap = k then A else A.map (·.add k)) (n - k) (cap - k)) (n - k) (xs.drop k) := by
  have hl := h.1
  refine ⟨by rw [List.length_drop]; omega, ?_⟩
  rcases h.2 with ⟨e1, h0⟩ | ⟨g, s, cp, cur, e1, hb, hg, hn, hm, hs, ht⟩
  · injection e1 with e1 e2 e3
    subst e1 e3 h0
    obtain rfl : k = 0 := by omega
    exact .inl ⟨by simp, rfl⟩
  · injection e1 with e1 e2 e3
    subst e1 e3
    by_cases hc : cap = k
    · rw [if_pos hc]
      refine .inr ⟨g, s, cap - k, cur, rfl, hb, hg, by omega, by omega, by omega, ?_⟩
      rw [show n - k = 0 by omega, List.take_zero, List.drop_of_length_le (by omega)]
    · rw [if_neg hc]
      refine .inr ⟨g, s + k, cap - k, cur, by rw [Option.map_some, addr_lit], hb, hg, by omega, by omega, by omega, ?_⟩
      rw [← ht, List.drop_take, List.drop_drop]
end
theorem RdM.of_tail {w : World} {base : Nat} {e : TypeId} {v : Value} {xs : List Nat} (h : TailB w base e v xs.length (xs.map b8v)) (hl : xs.length ≤ 4611686018427387904) : RdM w v xs := by
  rcases h.2 with ⟨rfl, h0⟩ | ⟨g, s, cap, cur, rfl, hb, hg, hn, hm, hsz, ht⟩
  · refine ⟨none, 0, by rw [h0], hl, fun i hi => by omega⟩
  · refine ⟨_, cap, rfl, hl, fun i hi => ⟨⟨g, s, none⟩, rfl, (Array.getElem?_eq_some_iff.1 hg).1, ?_⟩⟩
    rw [addr_lit, cell_of_row w g (s + i) cur e (0, 0) hg]
    have h1 := congrArg (·[i]?) ht
    simpa [List.getElem?_take, hi] using h1
/-- Where marking of a tail stands. -/
structure MarkedT (W wr : World) (g s : Nat) (n : Nat) (xs : List Nat) (k i : Nat) (cur : Array Value) : Prop where
  blk : Blk wr g 5 cur
  size : s + n ≤ cur.size
  take : (cur.toList.drop s).take n = (marksB k i ++ xs.drop i).map b8v
  grown : W.grownBy wr (some g)
theorem MarkedT.step {W wr : World} {g s : Nat} {xs : List Nat} {k i : Nat} {cur : Array Value} (h : MarkedT W wr g s xs.length xs k i cur) (hi : i < xs.length) :
    MarkedT W (wr.setCell ⟨g, s + i, none⟩ (.int .u8 (((k : Int) + (i : Int)) % 256))) g s xs.length xs k (i + 1) (cur.setIfInBounds (s + i) (.int .u8 (((k : Int) + (i : Int)) % 256))) := by
  refine ⟨h.blk.put _ _, by simpa using h.size, ?_, only_setCell h.grown (.inl rfl) _⟩
  rw [Array.toList_setIfInBounds, List.drop_set, if_neg (by omega), Nat.add_sub_cancel_left, List.take_set, h.take, marksB_set hi]
theorem MarkedT.cell {W wr : World} {g s n : Nat} {xs : List Nat} {k i : Nat} {cur : Array Value} (h : MarkedT W wr g s n xs k i cur) (hi : i < n) : ∃ u, wr.cell? ⟨g, s + i, none⟩ = some u ∧ wr.frozen? ⟨g, s + i, none⟩ = false := by
  have hs := h.size
  exact ⟨cur[s + i]'(by omega), by rw [h.blk.cell, Array.getElem?_eq_getElem (by omega)], h.blk.frozen (s + i)⟩
set_option maxHeartbeats 1000000 in
theorem marktail_any (base : Nat) (v : Value) (xs : List Nat) (k : Nat) (h1 : k ≤ 4194304) (hx : xs.length ≤ 4194304) (W : World) (hown : TailB W base 5 v xs.length (xs.map b8v)) :
    Calls Try.prog 86 #[v, .int .i64 k] W fun e w' => e = .returned (.int .i64 ((k : Int) + xs.length)) ∧ TailB w' base 5 v xs.length ((marksB k xs.length).map b8v) ∧ W.grownBy w' v.ownBlock := by
  rcases hown.2 with ⟨rfl, hn0⟩ | ⟨g, s, cap, cur, rfl, hb, hg, hn, hm, hsz, ht⟩
  · have hxs : xs = [] := List.eq_nil_of_length_eq_zero hn0
    subst hxs
    clear hown
    go_enter Try.func86, Try.ntmps86
    go_wp2
    go_loop [1, 5] (fun vk vi => vk = .int .i64 k ∧ vi = .int .i64 0) (fun _ _ => 0)
    case atStart => exact ⟨rfl, rfl⟩
    case round =>
      obtain ⟨rfl, rfl⟩ := hrel
      go_wp2
      go_ret
      exact ⟨by simp, ⟨rfl, .inl ⟨rfl, rfl⟩⟩, World.grownBy.refl _ _⟩
  · have hstart : MarkedT W W g s xs.length xs k 0 cur := ⟨hg, hsz, by simpa [marksB] using ht, World.grownBy.refl _ _⟩
    have HM := Lib.hid hm
    clear hown hsz ht hg hm
    go_enter Try.func86, Try.ntmps86
    go_wp2
    go_loopw [1, 5] (fun vk vi wr => ∃ (i : Nat) (cur : Array Value), vi = .int .i64 i ∧ vk = .int .i64 ((k + i : Nat) : Int) ∧ i ≤ xs.length ∧ MarkedT W wr g s xs.length xs k i cur) (fun _ vi _ => xs.length - (intOf vi).toNat)
    case atStart => exact ⟨0, cur, rfl, rfl, by omega, hstart⟩
    case round =>
      obtain ⟨i, cur2, rfl, rfl, hi, hM⟩ := hrel
      clear hstart
      by_cases hp : i < xs.length
      · have i1 : (i : Int) < (xs.length : Int) := by omega
        obtain ⟨u, hcu, hfu⟩ := hM.cell hp
        go_wp2
        go_roundw
        case rel => exact ⟨i + 1, _, by go_num, by go_num, by omega, hM.step hp⟩
        case measure => simp [intOf]; omega
      · obtain rfl : i = xs.length := by omega
        go_wp2
        go_ret
        refine ⟨by simp, ⟨by simp [marksB_len], .inr ⟨g, s, cap, cur2, rfl, hb, hM.blk, hn, HM.out, hM.size, ?_⟩⟩, hM.grown⟩
        have := hM.take
        simpa using this
theorem mktB (base : Nat) (v : Value) (xs : List Nat) (z : Int) (k : Nat) (hz : z = (k : Int)) (h1 : k ≤ 4194304) (hx : xs.length ≤ 4194304) (W : World) (hown : TailB W base 5 v xs.length ((xs).map b8v)) :
    Calls Try.prog 86 #[v, .int .i64 z] W fun e w' => e = .returned (.int .i64 (z + (xs.length : Int))) ∧ TailB w' base 5 v xs.length ((marksB k xs.length).map b8v) ∧ W.grownBy w' v.ownBlock := by
  subst hz
  exact marktail_any base v xs k h1 hx W hown
end Go.Proofs.Ytlkkobffgbjkpaa
