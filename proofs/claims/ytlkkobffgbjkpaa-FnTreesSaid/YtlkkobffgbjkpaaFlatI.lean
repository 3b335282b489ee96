/-
  impl.laid.
-/
import Derived.Test.YtlkkobffgbjkpaaFlatS
import Derived.Test.YtlkkobffgbjkpaaLimbK
import Derived.Test.YtlkkobffgbjkpaaLimb
import Derived.Deep.Cut
namespace Go.Proofs.Ytlkkobffgbjkpaa
open Go.RowKit Go

mutual
/-- A tree whose numbers are of 32 bits. -/
def Tr.rg : Tr → Prop | .mk _ n c => (-2147483648 ≤ n ∧ n ≤ 2147483647) ∧ rgL c
def rgL : List Tr → Prop | [] => True | t :: r => t.rg ∧ rgL r
end
theorem rgL_get : ∀ {xs : List Tr}, rgL xs → ∀ {i : Nat} (h : i < xs.length), xs[i].rg := by
  intro xs
  induction xs with
  | nil => intro _ i h; simp at h
  | cons t r ih =>
    intro hr i h
    cases i with
    | zero => exact hr.1
    | succ i => exact ih hr.2 (by simpa using h)
mutual
theorem rg_flatT : ∀ (t : Tr), t.rg → RngO (flatT t)
  | .mk k n c, h => by
    have hc := rg_flatL c h.2
    intro o ho
    by_cases h3 : k = 3 ∨ k = 4 ∨ k = 6
    · rw [flatT_nest h3] at ho
      simp only [List.mem_cons, List.mem_append, List.not_mem_nil, or_false] at ho
      rcases ho with rfl | ho | rfl
      · exact h.1
      · exact hc o ho
      · unfold endOf; split <;> decide
    · rw [flatT_leaf h3] at ho
      simp only [List.mem_cons, List.not_mem_nil, or_false] at ho
      subst ho
      exact h.1
theorem rg_flatL : ∀ (xs : List Tr), rgL xs → RngO (flatL xs)
  | [], _ => fun o ho => by simp [flatL] at ho
  | t :: r, h => fun o ho => by
    rw [flatL, List.mem_append] at ho
    rcases ho with ho | ho
    · exact rg_flatT t h.1 o ho
    · exact rg_flatL r h.2 o ho
end
mutual
theorem sh_sizeT : ∀ (t : Tr), t.sh = true → t.size ≤ (flatT t).length
  | .mk k n c, h => by
    simp only [Tr.sh, Bool.and_eq_true, decide_eq_true_eq] at h
    by_cases h3 : k = 3 ∨ k = 4 ∨ k = 6
    · rw [if_pos h3] at h
      have := sh_sizeL c h.2
      rw [flatT_nest h3, Tr.size]
      simp only [List.length_cons, List.length_append, List.length_nil]
      omega
    · rw [if_neg h3, List.isEmpty_iff] at h
      rw [flatT_leaf h3, Tr.size, h.2]
      simp [sizeL]
theorem sh_sizeL : ∀ (xs : List Tr), shL xs = true → sizeL xs ≤ (flatL xs).length
  | [], _ => by simp [sizeL]
  | t :: r, h => by
    simp only [shL, Bool.and_eq_true] at h
    have := sh_sizeT t h.1
    have := sh_sizeL r h.2
    simp only [sizeL, flatL, List.length_append]
    omega
end
/-- Trees that a body may have, but for how many they are. -/
def goodL (xs : List Tr) : Prop := shL xs = true ∧ (flatL xs).all okOp = true
def goodT (t : Tr) : Prop := t.sh = true ∧ (flatT t).all okOp = true
theorem good_take {xs : List Tr} {i : Nat} (h : i < xs.length) : goodL (xs.take (i + 1)) ↔ goodL (xs.take i) ∧ goodT xs[i] := by
  unfold goodL goodT
  rw [shL_take h, flatL_take h, List.all_append, Bool.and_eq_true, Bool.and_eq_true]
  constructor
  · rintro ⟨⟨a, b⟩, c, d⟩; exact ⟨⟨a, c⟩, b, d⟩
  · rintro ⟨⟨a, c⟩, b, d⟩; exact ⟨⟨a, b⟩, c, d⟩
theorem good_get {xs : List Tr} {i : Nat} (h : i < xs.length) (hg : goodL xs) : goodT xs[i] := by
  refine ⟨shL_split h hg.1, ?_⟩
  have e : xs = xs.take i ++ xs[i] :: xs.drop (i + 1) := by rw [← List.drop_eq_getElem_cons h, List.take_append_drop]
  have h2 := hg.2
  rw [e, flatL_app, flatL, List.all_append, List.all_append] at h2
  simp only [Bool.and_eq_true] at h2
  exact h2.2.1
theorem good_leaf {k n : Int} {c : List Tr} (h3 : ¬ (k = 3 ∨ k = 4 ∨ k = 6)) : goodT (.mk k n c) ↔ (k ≠ 5 ∧ k ≠ 7) ∧ c = [] ∧ okOp (k, n) = true := by
  unfold goodT
  rw [flatT_leaf h3]
  simp only [Tr.sh, Bool.and_eq_true, decide_eq_true_eq, if_neg h3, List.isEmpty_iff, List.all_cons, List.all_nil, Bool.and_true]
  constructor
  · rintro ⟨⟨a, b⟩, c⟩; exact ⟨a, b, c⟩
  · rintro ⟨a, b, c⟩; exact ⟨⟨a, b⟩, c⟩
theorem good_nest {k n : Int} {c : List Tr} (h3 : k = 3 ∨ k = 4 ∨ k = 6) : goodT (.mk k n c) ↔ goodL c ∧ okOp (k, n) = true := by
  unfold goodT goodL
  rw [flatT_nest h3]
  simp only [Tr.sh, Bool.and_eq_true, decide_eq_true_eq, if_pos h3, List.all_cons, List.all_append, List.all_nil, okOp_end]
  constructor
  · rintro ⟨⟨a, b⟩, c, d, -⟩; exact ⟨⟨b, d⟩, c⟩
  · rintro ⟨⟨b, d⟩, c⟩; exact ⟨⟨by omega, b⟩, c, d, by trivial⟩
theorem good_len {xs : List Tr} (h : goodL xs) : sizeL xs ≤ (flatL xs).length := sh_sizeL xs h.1
/-- What laid tells. -/
def LaidEnd (ts : List Tr) (x0 : List (Int × Int)) (w0 : World) (r0 : Option Nat) (w : World) (e : Ending) (w' : World) : Prop :=
  (goodL ts ∧ (sizeL ts = 0 ∨ x0.length + sizeL ts ≤ 60) ∧ ∃ u, e = .returned (.tuple #[u, .bool true]) ∧ w'.ownsRow w0.heap.size 75 2 u (x0 ++ flatL ts).length (slv (x0 ++ flatL ts)) ∧ Below w0.heap.size w0 w' ∧ w.grownBy w' r0 ∧ ∀ g, u.ownBlock = some g → r0 = some g ∨ w.heap.size ≤ g) ∨
  (¬ (goodL ts ∧ x0.length + (flatL ts).length ≤ 60) ∧ e = .returned (.tuple #[.slice none 0 0, .bool false]) ∧ Below w0.heap.size w0 w' ∧ w.grownBy w' r0)
theorem grown_step {w wr w9 : World} {r0 r1 : Option Nat} (h : w.grownBy wr r0) (h2 : wr.grownBy w9 r1) (hr : ∀ g, r1 = some g → r0 = some g ∨ w.heap.size ≤ g) : w.grownBy w9 r0 :=
  ⟨h2.os.trans h.os, h2.tape.trans h.tape, h2.output.trans h.output, Nat.le_trans h.size h2.size, fun i hi hn => (h2.block i (Nat.lt_of_lt_of_le hi h.size) (fun e => by
    rcases hr i e.symm with h3 | h3
    · exact hn h3.symm
    · omega)).trans (h.block i hi hn)⟩
set_option maxRecDepth 100000 in
set_option maxHeartbeats 16000000 in
theorem impl_laidL : ∀ (M : Nat) (ts : List Tr), sizeL ts < M → sizeL ts ≤ 2000000 → rgL ts → ∀ (w0 : World) (v : Value), RdT w0 v ts → ∀ (x0 : List (Int × Int)) (u0 : Value) (w : World), x0.length ≤ 60 → Below w0.heap.size w0 w → w.ownsRow w0.heap.size 75 2 u0 x0.length (slv x0) →
    Calls Try.prog 47 #[u0, v] w (LaidEnd ts x0 w0 u0.ownBlock w) := by
  intro M
  induction M with
  | zero => intro ts h; omega
  | succ M ih =>
    intro ts hM hz2m hrg w0 v hr x0 u0 w hx0 hbw hrow
    obtain ⟨A, cap, rfl⟩ := hr.form
    obtain ⟨i0, hi0, hz0, hz1, hz2⟩ := info_parts infoS
    have hlN : ts.length ≤ 2000000 := Nat.le_trans (sizeL_len ts) hz2m
    have HR := Lib.hid hr
    have HRG := Lib.hid (fun i (hi : i < ts.length) => rgL_get hrg hi)
    have HIH := Lib.hid (fun i (hi : i < ts.length) (h : rgL ts[i].kids) => ih ts[i].kids (by have := sizeL_get hi; omega) (by have := sizeL_get hi; omega) h w0)
    have HFT := Lib.hid (fun i (hi : i < ts.length) => flatL_take hi)
    have HGT := Lib.hid (fun i (hi : i < ts.length) => good_take hi)
    have HGG := Lib.hid (fun i (hi : i < ts.length) => good_get hi)
    have HSP := Lib.hid (fun i (hi : i < ts.length) => flatL_split hi)
    have HZT := Lib.hid (fun i (hi : i < ts.length) => sizeL_take_succ hi)
    have HTL : Hid (ts.take ts.length = ts) := Lib.hid List.take_length
    obtain ⟨U, uc, rfl⟩ := own_formS hrow
    have RW0 := Lib.hid hrow
    have BB0 := Lib.hid hbw
    obtain ⟨N, hN⟩ : ∃ N, ts.length = N := ⟨_, rfl⟩
    have HN := Lib.hid hN
    rw [hN] at hlN HR HTL ⊢
    obtain ⟨X, hX⟩ : ∃ X, x0.length = X := ⟨_, rfl⟩
    have HX := Lib.hid hX
    rw [hX] at hx0 RW0 ⊢
    clear hr ih hM hz2m hN hrg hbw hrow hX
    go_enter Try.func47, Try.ntmps47
    go_wp2_with fail
    go_loopw [0, 14] (fun vo vi wr => ∃ (i : Nat) (u : Value), vi = .int .i64 i ∧ vo = u ∧ i ≤ N ∧ Hid (goodL (ts.take i)) ∧ Hid (sizeL (ts.take i) = 0 ∨ x0.length + sizeL (ts.take i) ≤ 60) ∧ Hid (wr.ownsRow w0.heap.size 75 2 u (x0 ++ flatL (ts.take i)).length (slv (x0 ++ flatL (ts.take i)))) ∧ Hid (Below w0.heap.size w0 wr) ∧ Hid (∀ g, u.ownBlock = some g → (Value.slice U X uc).ownBlock = some g ∨ w.heap.size ≤ g) ∧ Hid (w.grownBy wr (Value.slice U X uc).ownBlock)) (fun _ vi _ => N - (intOf vi).toNat)
    case atStart => exact ⟨0, _, rfl, rfl, by omega, Lib.hid ⟨by simp [shL], by simp [flatL]⟩, Lib.hid (.inl (by simp [sizeL])), Lib.hid (by simp only [List.take_zero, flatL, List.append_nil]; rw [HX.out]; exact RW0.out), BB0, Lib.hid (fun g hg => .inl hg), Lib.hid (World.grownBy.refl _ _)⟩
    case round =>
      obtain ⟨i, u, rfl, rfl, hi, HGD, HZL, RW, BB, GN, GG⟩ := hrel
      clear RW0 BB0
      obtain ⟨E, ec, rfl⟩ := own_formS RW.out
      have hn9b : (x0 ++ flatL (ts.take i)).length ≤ 180 := by
        have h1 := flatL_len (ts.take i)
        have h2 := HX.out
        have h3 := HZL.out
        rw [List.length_append]
        omega
      obtain ⟨xs, hxs⟩ : ∃ xs, x0 ++ flatL (ts.take i) = xs := ⟨_, rfl⟩
      have HXS := Lib.hid hxs
      rw [hxs] at RW hn9b GN ⊢
      obtain ⟨n9, hn9⟩ : ∃ n9, xs.length = n9 := ⟨_, rfl⟩
      have HN9 := Lib.hid hn9
      rw [hn9] at RW hn9b GN ⊢
      clear hxs hn9
      by_cases hp : i < N
      · have hp' : i < ts.length := by rw [HN.out]; exact hp
        obtain ⟨a, B, m, bc, rfl, la, p0w, p1w, p2w, r1, e1⟩ := HR.out.item hp'
        have la2 : (a.add (i * 3)).block < w0.heap.size := by rw [addr_addb]; exact la
        have p0 := (BB.out.cell la2).trans p0w
        have p1 := (BB.out.cell (p := ⟨(a.add (i * 3)).block, (a.add (i * 3)).off + 1, none⟩) la2).trans p1w
        have p2 := (BB.out.cell (p := ⟨(a.add (i * 3)).block, (a.add (i * 3)).off + 2, none⟩) la2).trans p2w
        clear p0w p1w p2w la2
        have hft := HFT.out i hp'
        have hgt := HGT.out i hp'
        have hgg := HGG.out i hp'
        have hsp := HSP.out i hp'
        have hzt := HZT.out i hp'
        have hrgx := HRG.out i hp'
        have hic := HIH.out i hp'
        obtain ⟨x, hx⟩ : ∃ x, ts[i] = x := ⟨_, rfl⟩
        obtain ⟨k, n, kids⟩ := x
        rw [hx] at p0 p1 r1 e1 hft hgt hgg hsp hzt hrgx hic
        simp only [Tr.k, Tr.n, Tr.kids] at p0 p1 r1 e1 hzt hic
        obtain ⟨⟨hg0, hg1⟩, hrgk⟩ : (-2147483648 ≤ n ∧ n ≤ 2147483647) ∧ rgL kids := hrgx
        have hic := hic hrgk
        have hfp := flatT_pos (.mk k n kids)
        have hL : n9 + 1 ≤ x0.length + (flatL ts).length := by
          have h1 := HXS.out
          have h2 := HN9.out
          rw [← h1, List.length_append] at h2
          omega
        have i1 : (0 : Int) ≤ (i : Int) := by omega
        have i2 : (i : Int) < (N : Int) := by omega
        clear hx la HIH HFT HGT HGG HSP HZT HRG hp'
        by_cases h3 : k = 3 ∨ k = 4 ∨ k = 6
        · have h346 := h3
          rcases h346 with rfl | rfl | rfl
          · cases hok : okOp (3, n) with
            | false =>
              have HNO : Hid (¬ (goodL ts ∧ x0.length + (flatL ts).length ≤ 60)) := Lib.hid (fun h => by have := (good_nest h3).1 (hgg h.1); rw [hok] at this; exact absurd this.2 (by decide))
              have HC := Lib.hid (fun W => limbk_if n B m bc false hok hg0 hg1 W)
              clear hft hgt hgg hsp hzt hic r1 e1 hrgk hfp hL h3 hok
              go_wp2_with fail
              refine (HC.out _).mono ?_
              rintro e w2 ⟨rfl, hb2⟩
              have BB2 := Lib.hid (BB.out.trans (hb2.mono BB.out.size))
              have GG2 := Lib.hid (only_trans GG.out (only_of_below hb2 (Value.slice U X uc).ownBlock))
              clear hb2 p0 p1 p2
              go_wp2_with fail
              go_ret2
              exact .inr ⟨HNO.out, rfl, BB2.out, GG2.out⟩
            | true =>
              have HC := Lib.hid (fun W => limbk_if n B m bc true hok hg0 hg1 W)
              by_cases hful : 60 ≤ n9
              · have HNO : Hid (¬ (goodL ts ∧ x0.length + (flatL ts).length ≤ 60)) := Lib.hid (fun h => by omega)
                have c1 : (60 : Int) ≤ (n9 : Int) := by omega
                clear hft hgt hgg hsp hzt hic r1 e1 hrgk hfp hL h3 hok
                go_wp2_with fail
                refine (HC.out _).mono ?_
                rintro e w2 ⟨rfl, hb2⟩
                have BB2 := Lib.hid (BB.out.trans (hb2.mono BB.out.size))
                have GG2 := Lib.hid (only_trans GG.out (only_of_below hb2 (Value.slice U X uc).ownBlock))
                clear hb2 p0 p1 p2
                go_wp2_with fail
                go_ret2
                exact .inr ⟨HNO.out, rfl, BB2.out, GG2.out⟩
              · have c1 : ¬ (60 : Int) ≤ (n9 : Int) := by omega
                have HHE : endOf 3 = (5, 0) := by decide
                have hfk : flatT (.mk 3 n kids) = (3, n) :: (flatL kids ++ [(5, 0)]) := by rw [flatT_nest h3, HHE]
                rw [hfk] at hsp
                simp only [List.length_cons, List.length_append, List.length_nil] at hsp
                have HGD2 : Hid (goodL kids → goodL (ts.take (i + 1))) := Lib.hid (fun h => hgt.2 ⟨HGD.out, (good_nest h3).2 ⟨h, hok⟩⟩)
                have HZL2 : Hid (sizeL kids = 0 ∨ n9 + 1 + sizeL kids ≤ 60 → sizeL (ts.take (i + 1)) = 0 ∨ x0.length + sizeL (ts.take (i + 1)) ≤ 60) := Lib.hid (fun h => .inr (by
                  have h1 := good_len HGD.out
                  have h2 := HN9.out
                  rw [← HXS.out, List.length_append] at h2
                  rw [hzt]
                  omega))
                have HNO : Hid (¬ (goodL kids ∧ n9 + 1 + (flatL kids).length ≤ 60) → ¬ (goodL ts ∧ x0.length + (flatL ts).length ≤ 60)) := Lib.hid (fun h1 h2 => h1 ⟨((good_nest h3).1 (hgg h2.1)).1, by
                  have h4 := HN9.out
                  rw [← HXS.out, List.length_append] at h4
                  omega⟩)
                have HFN : Hid (x0 ++ flatL (ts.take (i + 1)) = xs ++ [(3, n)] ++ flatL kids ++ [(5, 0)]) := Lib.hid (by rw [hft, hfk, ← List.append_assoc, HXS.out]; simp only [List.append_assoc, List.cons_append, List.nil_append])
                have HX1 : Hid ((xs ++ [(3, n)]).length = n9 + 1) := Lib.hid (by rw [List.length_append, HN9.out]; rfl)
                have HRC := Lib.hid (fun u W (hb : Below w0.heap.size w0 W) (hr : W.ownsRow w0.heap.size 75 2 u (n9 + 1) (slv (xs ++ [(3, n)]))) => hic (.slice B m bc) r1 (xs ++ [(3, n)]) u W (by rw [HX1.out]; omega) hb (by rw [HX1.out]; exact hr))
                have HKL := Lib.hid (flatL_len kids)
                clear hft hgt hgg hsp hzt hic r1 e1 hrgk hfp hL h3 hok HGD HZL HXS HHE hfk
                go_wp2_with fail
                refine (HC.out _).mono ?_
                rintro e w2 ⟨rfl, hb2⟩
                have BB2 := Lib.hid (BB.out.trans (hb2.mono BB.out.size))
                have R2 := Lib.hid (row_keep RW.out hb2)
                have GG2 := Lib.hid (only_trans GG.out (only_of_below hb2 (Value.slice U X uc).ownBlock))
                clear hb2 p0 p1 p2 BB RW HC GG
                go_wp2_with fail
                refine (head_fork 3 n B m bc _).mono ?_
                rintro e w3 ⟨rfl, hb3⟩
                have BB3 := Lib.hid (BB2.out.trans (hb3.mono BB2.out.size))
                have R3 := Lib.hid (row_keep R2.out hb3)
                have HB4 := Lib.hid (BB3.out.alloc BB3.out.size (.cells #[.int .i64 3, .int .i32 n] 75))
                have R4 := Lib.hid (R3.out.alloc (.cells #[.int .i64 3, .int .i32 n] 75))
                have SRC := Lib.hid (src_two w3 (.int .i64 3) (.int .i32 n))
                have GG4 := Lib.hid (only_alloc (only_trans GG2.out (only_of_below hb3 (Value.slice U X uc).ownBlock)) (.cells #[.int .i64 3, .int .i32 n] 75))
                clear hb3 BB2 R2 BB3 R3 GG2
                go_wp2_with (at_builtin; refine wpList_append_src rfl _ _ 24 rfl w0.heap.size 75 i0 (.agg #[.int .i64 0, .int .i32 0]) 2 16 Try.underlying24 hi0 hz0 hz1 hz2 rfl (by decide) _ n9 _ rfl (R4.out) _ 1 [.int .i64 3, .int .i32 n] rfl SRC.out (by simp [Value.oneCell']) (by unfold maxLen; omega) (by omega) (by have := HB4.out.size; omega) ?_; intro v9 w9 ho9 ha9; refine unstop ?_)
                refine Stop.go ?_
                have BB9 := Lib.hid (HB4.out.grown ha9.out.grown HB4.out.size (fun k hk => (World.ownsRow.lt R4.out k hk).1))
                obtain ⟨E9, ec9, rfl⟩ := own_formS ho9
                have R9 : Hid (w9.ownsRow w0.heap.size 75 2 (.slice E9 (n9 + 1) ec9) (n9 + 1) (slv (xs ++ [(3, n)]))) := Lib.hid (by rw [slv_app]; exact ho9)
                have GG9 := Lib.hid (grown_step GG4.out ha9.out.grown GN.out)
                have GN9 : Hid (∀ g, (Value.slice E9 (n9 + 1) ec9).ownBlock = some g → (Value.slice U X uc).ownBlock = some g ∨ w.heap.size ≤ g) := Lib.hid (fun g hg => (ha9.out.where9 g hg).elim (fun h => GN.out g h) (fun h => .inr (Nat.le_trans GG4.out.size h)))
                clear ho9 ha9 SRC HB4 R4 GG4 GN
                go_wp2_with fail
                refine (insidek_fork 3 n B m bc _).mono ?_
                rintro e w10 ⟨rfl, hb10⟩
                obtain ⟨W11, hW11⟩ : ∃ W, W = w10.alloc (.cells #[.int .i64 5, .int .i32 0] 75) := ⟨_, rfl⟩
                have b11 : Below w9.heap.size w9 W11 := by rw [hW11]; exact hb10.alloc hb10.size _
                have K11 : Blk W11 w10.heap.size 75 #[.int .i64 5, .int .i32 0] := by rw [hW11]; exact Blk.new w10 _ _
                have BB11 := Lib.hid (BB9.out.trans (b11.mono BB9.out.size))
                have R11 := Lib.hid (row_keep R9.out b11)
                have GG11 := Lib.hid (only_trans GG9.out (only_of_below b11 (Value.slice U X uc).ownBlock))
                have HNB : Hid (some w10.heap.size ≠ (Value.slice E9 (n9 + 1) ec9).ownBlock) := Lib.hid (fun e => by have := (World.ownsRow.lt R9.out _ e.symm).2; have := hb10.size; omega)
                have KB := Lib.hid K11
                have HW11 := Lib.hid hW11
                have HCC := Lib.hid (HRC.out (.slice E9 (n9 + 1) ec9) W11 BB11.out R11.out)
                clear hb10 BB9 R9 GG9 b11 K11 hW11 HRC
                go_upto_region 9 with (fail)
                rw [← HW11.out]
                clear HW11
                go_wp2_with fail
                refine HCC.out.mono ?_
                rintro e w12 (⟨hgk, hzk, u12, rfl, ho12, hb12, hg12, hn12⟩ | ⟨hno, rfl, hb12, hg12⟩)
                · have K12 := Lib.hid (KB.out.grown hg12 HNB.out)
                  obtain ⟨V12, vc12, rfl⟩ := own_formS ho12
                  have HGD3 := Lib.hid (HGD2.out hgk)
                  have HZL3 := Lib.hid (HZL2.out (by rw [HX1.out] at hzk; exact hzk))
                  have hkl : (flatL kids).length ≤ 120 := by
                    have h1 := HKL.out
                    rw [HX1.out] at hzk
                    omega
                  have GN12 : Hid (∀ g, (Value.slice V12 ((xs ++ [(3, n)]) ++ flatL kids).length vc12).ownBlock = some g → (Value.slice U X uc).ownBlock = some g ∨ w.heap.size ≤ g) := Lib.hid (fun g hg => (hn12 g hg).elim (fun h => GN9.out g h) (fun h => .inr (Nat.le_trans GG11.out.size h)))
                  have GG12 := Lib.hid (grown_step GG11.out hg12 GN9.out)
                  obtain ⟨ys, hys⟩ : ∃ ys, (xs ++ [(3, n)]) ++ flatL kids = ys := ⟨_, rfl⟩
                  have hyl : ys.length = n9 + 1 + (flatL kids).length := by rw [← hys, List.length_append, HX1.out]
                  rw [hys] at ho12 HFN GN12 ⊢
                  obtain ⟨n12, hn12'⟩ : ∃ n12, ys.length = n12 := ⟨_, rfl⟩
                  have HN12 := Lib.hid hn12'
                  rw [hn12'] at ho12 GN12 hyl ⊢
                  have hn12b : n12 ≤ 400 := by omega
                  have e0 : w12.cell? ⟨w10.heap.size, 0, none⟩ = some (.int .i64 5) := K12.out.cell 0
                  have e1 : w12.cell? ⟨w10.heap.size, 1, none⟩ = some (.int .i32 0) := K12.out.cell 1
                  have lz : w10.heap.size < w12.heap.size := K12.out.lt
                  have HB13 := Lib.hid (hb12.alloc hb12.size (.cells #[.int .i64 5, .int .i32 0] 75))
                  have R13 := Lib.hid (ho12.alloc (.cells #[.int .i64 5, .int .i32 0] 75))
                  have GG13 := Lib.hid (only_alloc GG12.out (.cells #[.int .i64 5, .int .i32 0] 75))
                  have SRC := Lib.hid (src_two w12 (.int .i64 5) (.int .i32 0))
                  clear hgk hzk ho12 hb12 hg12 hn12 K12 KB HNB HCC HNO HGD2 HZL2 HX1 BB11 R11 GG11 GN9 GG12 hys hyl hn12' hkl
                  go_wp2_with (at_builtin; refine wpList_append_src rfl _ _ 24 rfl w0.heap.size 75 i0 (.agg #[.int .i64 0, .int .i32 0]) 2 16 Try.underlying24 hi0 hz0 hz1 hz2 rfl (by decide) _ n12 _ rfl (R13.out) _ 1 [.int .i64 5, .int .i32 0] rfl SRC.out (by simp [Value.oneCell']) (by unfold maxLen; omega) (by omega) (by have := HB13.out.size; omega) ?_; intro v14 w14 ho14 ha14; refine unstop ?_)
                  refine Stop.go ?_
                  have BB14 := Lib.hid (HB13.out.grown ha14.out.grown HB13.out.size (fun k hk => (World.ownsRow.lt R13.out k hk).1))
                  have GG14 := Lib.hid (grown_step GG13.out ha14.out.grown GN12.out)
                  have GN14 : Hid (∀ g, v14.ownBlock = some g → (Value.slice U X uc).ownBlock = some g ∨ w.heap.size ≤ g) := Lib.hid (fun g hg => (ha14.out.where9 g hg).elim (fun h => GN12.out g h) (fun h => .inr (Nat.le_trans GG13.out.size h)))
                  have R14 : Hid (w14.ownsRow w0.heap.size 75 2 v14 (x0 ++ flatL (ts.take (i + 1))).length (slv (x0 ++ flatL (ts.take (i + 1))))) := Lib.hid (by
                    rw [HFN.out, List.length_append, HN12.out, slv_app]
                    exact ho14)
                  clear ho14 ha14 SRC HB13 GG13 R13 e0 e1 lz GN12 HN12 HFN
                  go_wp2_with fail
                  go_roundw
                  case rel => exact ⟨i + 1, v14, by go_num, rfl, by omega, HGD3, HZL3, R14, BB14, GN14, GG14⟩
                  case measure => simp [intOf]; omega
                · have HNO2 := Lib.hid (HNO.out (by rw [HX1.out] at hno; exact hno))
                  have K12 := Lib.hid (KB.out.grown hg12 HNB.out)
                  have e0 : w12.cell? ⟨w10.heap.size, 0, none⟩ = some (.int .i64 5) := K12.out.cell 0
                  have e1 : w12.cell? ⟨w10.heap.size, 1, none⟩ = some (.int .i32 0) := K12.out.cell 1
                  have lz : w10.heap.size < w12.heap.size := K12.out.lt
                  have HB13 := Lib.hid (hb12.alloc hb12.size (.cells #[.int .i64 5, .int .i32 0] 75))
                  have GG13 := Lib.hid (only_alloc (grown_step GG11.out hg12 GN9.out) (.cells #[.int .i64 5, .int .i32 0] 75))
                  have R13 := Lib.hid (World.ownsRow_nil (w12.alloc (.cells #[.int .i64 5, .int .i32 0] 75)) w0.heap.size 75 2)
                  have SRC := Lib.hid (src_two w12 (.int .i64 5) (.int .i32 0))
                  clear hno hb12 hg12 K12 KB HNB HCC HNO HGD2 HZL2 HFN HX1 BB11 R11 GG11 GN9
                  go_wp2_with (at_builtin; refine wpList_append_src rfl _ _ 24 rfl w0.heap.size 75 i0 (.agg #[.int .i64 0, .int .i32 0]) 2 16 Try.underlying24 hi0 hz0 hz1 hz2 rfl (by decide) _ 0 _ rfl (R13.out) _ 1 [.int .i64 5, .int .i32 0] rfl SRC.out (by simp [Value.oneCell']) (by unfold maxLen; omega) (by omega) (by have := HB13.out.size; omega) ?_; intro v14 w14 ho14 ha14; refine unstop ?_)
                  refine Stop.go ?_
                  have BB14 := Lib.hid (HB13.out.grown ha14.out.grown HB13.out.size (fun k hk => nomatch (show (none : Option Nat) = some k from hk)))
                  have GG14 := Lib.hid (grown_step GG13.out ha14.out.grown (fun g hg => nomatch (show (none : Option Nat) = some g from hg)))
                  clear ho14 ha14 SRC HB13 GG13 R13 e0 e1 lz
                  go_wp2_with fail
                  go_ret2
                  exact .inr ⟨HNO2.out, rfl, BB14.out, GG14.out⟩
          · cases hok : okOp (4, n) with
            | false =>
              have HNO : Hid (¬ (goodL ts ∧ x0.length + (flatL ts).length ≤ 60)) := Lib.hid (fun h => by have := (good_nest h3).1 (hgg h.1); rw [hok] at this; exact absurd this.2 (by decide))
              have HC := Lib.hid (fun W => limbk_unless n B m bc false hok hg0 hg1 W)
              clear hft hgt hgg hsp hzt hic r1 e1 hrgk hfp hL h3 hok
              go_wp2_with fail
              refine (HC.out _).mono ?_
              rintro e w2 ⟨rfl, hb2⟩
              have BB2 := Lib.hid (BB.out.trans (hb2.mono BB.out.size))
              have GG2 := Lib.hid (only_trans GG.out (only_of_below hb2 (Value.slice U X uc).ownBlock))
              clear hb2 p0 p1 p2
              go_wp2_with fail
              go_ret2
              exact .inr ⟨HNO.out, rfl, BB2.out, GG2.out⟩
            | true =>
              have HC := Lib.hid (fun W => limbk_unless n B m bc true hok hg0 hg1 W)
              by_cases hful : 60 ≤ n9
              · have HNO : Hid (¬ (goodL ts ∧ x0.length + (flatL ts).length ≤ 60)) := Lib.hid (fun h => by omega)
                have c1 : (60 : Int) ≤ (n9 : Int) := by omega
                clear hft hgt hgg hsp hzt hic r1 e1 hrgk hfp hL h3 hok
                go_wp2_with fail
                refine (HC.out _).mono ?_
                rintro e w2 ⟨rfl, hb2⟩
                have BB2 := Lib.hid (BB.out.trans (hb2.mono BB.out.size))
                have GG2 := Lib.hid (only_trans GG.out (only_of_below hb2 (Value.slice U X uc).ownBlock))
                clear hb2 p0 p1 p2
                go_wp2_with fail
                go_ret2
                exact .inr ⟨HNO.out, rfl, BB2.out, GG2.out⟩
              · have c1 : ¬ (60 : Int) ≤ (n9 : Int) := by omega
                have HHE : endOf 4 = (5, 0) := by decide
                have hfk : flatT (.mk 4 n kids) = (4, n) :: (flatL kids ++ [(5, 0)]) := by rw [flatT_nest h3, HHE]
                rw [hfk] at hsp
                simp only [List.length_cons, List.length_append, List.length_nil] at hsp
                have HGD2 : Hid (goodL kids → goodL (ts.take (i + 1))) := Lib.hid (fun h => hgt.2 ⟨HGD.out, (good_nest h3).2 ⟨h, hok⟩⟩)
                have HZL2 : Hid (sizeL kids = 0 ∨ n9 + 1 + sizeL kids ≤ 60 → sizeL (ts.take (i + 1)) = 0 ∨ x0.length + sizeL (ts.take (i + 1)) ≤ 60) := Lib.hid (fun h => .inr (by
                  have h1 := good_len HGD.out
                  have h2 := HN9.out
                  rw [← HXS.out, List.length_append] at h2
                  rw [hzt]
                  omega))
                have HNO : Hid (¬ (goodL kids ∧ n9 + 1 + (flatL kids).length ≤ 60) → ¬ (goodL ts ∧ x0.length + (flatL ts).length ≤ 60)) := Lib.hid (fun h1 h2 => h1 ⟨((good_nest h3).1 (hgg h2.1)).1, by
                  have h4 := HN9.out
                  rw [← HXS.out, List.length_append] at h4
                  omega⟩)
                have HFN : Hid (x0 ++ flatL (ts.take (i + 1)) = xs ++ [(4, n)] ++ flatL kids ++ [(5, 0)]) := Lib.hid (by rw [hft, hfk, ← List.append_assoc, HXS.out]; simp only [List.append_assoc, List.cons_append, List.nil_append])
                have HX1 : Hid ((xs ++ [(4, n)]).length = n9 + 1) := Lib.hid (by rw [List.length_append, HN9.out]; rfl)
                have HRC := Lib.hid (fun u W (hb : Below w0.heap.size w0 W) (hr : W.ownsRow w0.heap.size 75 2 u (n9 + 1) (slv (xs ++ [(4, n)]))) => hic (.slice B m bc) r1 (xs ++ [(4, n)]) u W (by rw [HX1.out]; omega) hb (by rw [HX1.out]; exact hr))
                have HKL := Lib.hid (flatL_len kids)
                clear hft hgt hgg hsp hzt hic r1 e1 hrgk hfp hL h3 hok HGD HZL HXS HHE hfk
                go_wp2_with fail
                refine (HC.out _).mono ?_
                rintro e w2 ⟨rfl, hb2⟩
                have BB2 := Lib.hid (BB.out.trans (hb2.mono BB.out.size))
                have R2 := Lib.hid (row_keep RW.out hb2)
                have GG2 := Lib.hid (only_trans GG.out (only_of_below hb2 (Value.slice U X uc).ownBlock))
                clear hb2 p0 p1 p2 BB RW HC GG
                go_wp2_with fail
                refine (head_fork 4 n B m bc _).mono ?_
                rintro e w3 ⟨rfl, hb3⟩
                have BB3 := Lib.hid (BB2.out.trans (hb3.mono BB2.out.size))
                have R3 := Lib.hid (row_keep R2.out hb3)
                have HB4 := Lib.hid (BB3.out.alloc BB3.out.size (.cells #[.int .i64 4, .int .i32 n] 75))
                have R4 := Lib.hid (R3.out.alloc (.cells #[.int .i64 4, .int .i32 n] 75))
                have SRC := Lib.hid (src_two w3 (.int .i64 4) (.int .i32 n))
                have GG4 := Lib.hid (only_alloc (only_trans GG2.out (only_of_below hb3 (Value.slice U X uc).ownBlock)) (.cells #[.int .i64 4, .int .i32 n] 75))
                clear hb3 BB2 R2 BB3 R3 GG2
                go_wp2_with (at_builtin; refine wpList_append_src rfl _ _ 24 rfl w0.heap.size 75 i0 (.agg #[.int .i64 0, .int .i32 0]) 2 16 Try.underlying24 hi0 hz0 hz1 hz2 rfl (by decide) _ n9 _ rfl (R4.out) _ 1 [.int .i64 4, .int .i32 n] rfl SRC.out (by simp [Value.oneCell']) (by unfold maxLen; omega) (by omega) (by have := HB4.out.size; omega) ?_; intro v9 w9 ho9 ha9; refine unstop ?_)
                refine Stop.go ?_
                have BB9 := Lib.hid (HB4.out.grown ha9.out.grown HB4.out.size (fun k hk => (World.ownsRow.lt R4.out k hk).1))
                obtain ⟨E9, ec9, rfl⟩ := own_formS ho9
                have R9 : Hid (w9.ownsRow w0.heap.size 75 2 (.slice E9 (n9 + 1) ec9) (n9 + 1) (slv (xs ++ [(4, n)]))) := Lib.hid (by rw [slv_app]; exact ho9)
                have GG9 := Lib.hid (grown_step GG4.out ha9.out.grown GN.out)
                have GN9 : Hid (∀ g, (Value.slice E9 (n9 + 1) ec9).ownBlock = some g → (Value.slice U X uc).ownBlock = some g ∨ w.heap.size ≤ g) := Lib.hid (fun g hg => (ha9.out.where9 g hg).elim (fun h => GN.out g h) (fun h => .inr (Nat.le_trans GG4.out.size h)))
                clear ho9 ha9 SRC HB4 R4 GG4 GN
                go_wp2_with fail
                refine (insidek_fork 4 n B m bc _).mono ?_
                rintro e w10 ⟨rfl, hb10⟩
                obtain ⟨W11, hW11⟩ : ∃ W, W = w10.alloc (.cells #[.int .i64 5, .int .i32 0] 75) := ⟨_, rfl⟩
                have b11 : Below w9.heap.size w9 W11 := by rw [hW11]; exact hb10.alloc hb10.size _
                have K11 : Blk W11 w10.heap.size 75 #[.int .i64 5, .int .i32 0] := by rw [hW11]; exact Blk.new w10 _ _
                have BB11 := Lib.hid (BB9.out.trans (b11.mono BB9.out.size))
                have R11 := Lib.hid (row_keep R9.out b11)
                have GG11 := Lib.hid (only_trans GG9.out (only_of_below b11 (Value.slice U X uc).ownBlock))
                have HNB : Hid (some w10.heap.size ≠ (Value.slice E9 (n9 + 1) ec9).ownBlock) := Lib.hid (fun e => by have := (World.ownsRow.lt R9.out _ e.symm).2; have := hb10.size; omega)
                have KB := Lib.hid K11
                have HW11 := Lib.hid hW11
                have HCC := Lib.hid (HRC.out (.slice E9 (n9 + 1) ec9) W11 BB11.out R11.out)
                clear hb10 BB9 R9 GG9 b11 K11 hW11 HRC
                go_upto_region 9 with (fail)
                rw [← HW11.out]
                clear HW11
                go_wp2_with fail
                refine HCC.out.mono ?_
                rintro e w12 (⟨hgk, hzk, u12, rfl, ho12, hb12, hg12, hn12⟩ | ⟨hno, rfl, hb12, hg12⟩)
                · have K12 := Lib.hid (KB.out.grown hg12 HNB.out)
                  obtain ⟨V12, vc12, rfl⟩ := own_formS ho12
                  have HGD3 := Lib.hid (HGD2.out hgk)
                  have HZL3 := Lib.hid (HZL2.out (by rw [HX1.out] at hzk; exact hzk))
                  have hkl : (flatL kids).length ≤ 120 := by
                    have h1 := HKL.out
                    rw [HX1.out] at hzk
                    omega
                  have GN12 : Hid (∀ g, (Value.slice V12 ((xs ++ [(4, n)]) ++ flatL kids).length vc12).ownBlock = some g → (Value.slice U X uc).ownBlock = some g ∨ w.heap.size ≤ g) := Lib.hid (fun g hg => (hn12 g hg).elim (fun h => GN9.out g h) (fun h => .inr (Nat.le_trans GG11.out.size h)))
                  have GG12 := Lib.hid (grown_step GG11.out hg12 GN9.out)
                  obtain ⟨ys, hys⟩ : ∃ ys, (xs ++ [(4, n)]) ++ flatL kids = ys := ⟨_, rfl⟩
                  have hyl : ys.length = n9 + 1 + (flatL kids).length := by rw [← hys, List.length_append, HX1.out]
                  rw [hys] at ho12 HFN GN12 ⊢
                  obtain ⟨n12, hn12'⟩ : ∃ n12, ys.length = n12 := ⟨_, rfl⟩
                  have HN12 := Lib.hid hn12'
                  rw [hn12'] at ho12 GN12 hyl ⊢
                  have hn12b : n12 ≤ 400 := by omega
                  have e0 : w12.cell? ⟨w10.heap.size, 0, none⟩ = some (.int .i64 5) := K12.out.cell 0
                  have e1 : w12.cell? ⟨w10.heap.size, 1, none⟩ = some (.int .i32 0) := K12.out.cell 1
                  have lz : w10.heap.size < w12.heap.size := K12.out.lt
                  have HB13 := Lib.hid (hb12.alloc hb12.size (.cells #[.int .i64 5, .int .i32 0] 75))
                  have R13 := Lib.hid (ho12.alloc (.cells #[.int .i64 5, .int .i32 0] 75))
                  have GG13 := Lib.hid (only_alloc GG12.out (.cells #[.int .i64 5, .int .i32 0] 75))
                  have SRC := Lib.hid (src_two w12 (.int .i64 5) (.int .i32 0))
                  clear hgk hzk ho12 hb12 hg12 hn12 K12 KB HNB HCC HNO HGD2 HZL2 HX1 BB11 R11 GG11 GN9 GG12 hys hyl hn12' hkl
                  go_wp2_with (at_builtin; refine wpList_append_src rfl _ _ 24 rfl w0.heap.size 75 i0 (.agg #[.int .i64 0, .int .i32 0]) 2 16 Try.underlying24 hi0 hz0 hz1 hz2 rfl (by decide) _ n12 _ rfl (R13.out) _ 1 [.int .i64 5, .int .i32 0] rfl SRC.out (by simp [Value.oneCell']) (by unfold maxLen; omega) (by omega) (by have := HB13.out.size; omega) ?_; intro v14 w14 ho14 ha14; refine unstop ?_)
                  refine Stop.go ?_
                  have BB14 := Lib.hid (HB13.out.grown ha14.out.grown HB13.out.size (fun k hk => (World.ownsRow.lt R13.out k hk).1))
                  have GG14 := Lib.hid (grown_step GG13.out ha14.out.grown GN12.out)
                  have GN14 : Hid (∀ g, v14.ownBlock = some g → (Value.slice U X uc).ownBlock = some g ∨ w.heap.size ≤ g) := Lib.hid (fun g hg => (ha14.out.where9 g hg).elim (fun h => GN12.out g h) (fun h => .inr (Nat.le_trans GG13.out.size h)))
                  have R14 : Hid (w14.ownsRow w0.heap.size 75 2 v14 (x0 ++ flatL (ts.take (i + 1))).length (slv (x0 ++ flatL (ts.take (i + 1))))) := Lib.hid (by
                    rw [HFN.out, List.length_append, HN12.out, slv_app]
                    exact ho14)
                  clear ho14 ha14 SRC HB13 GG13 R13 e0 e1 lz GN12 HN12 HFN
                  go_wp2_with fail
                  go_roundw
                  case rel => exact ⟨i + 1, v14, by go_num, rfl, by omega, HGD3, HZL3, R14, BB14, GN14, GG14⟩
                  case measure => simp [intOf]; omega
                · have HNO2 := Lib.hid (HNO.out (by rw [HX1.out] at hno; exact hno))
                  have K12 := Lib.hid (KB.out.grown hg12 HNB.out)
                  have e0 : w12.cell? ⟨w10.heap.size, 0, none⟩ = some (.int .i64 5) := K12.out.cell 0
                  have e1 : w12.cell? ⟨w10.heap.size, 1, none⟩ = some (.int .i32 0) := K12.out.cell 1
                  have lz : w10.heap.size < w12.heap.size := K12.out.lt
                  have HB13 := Lib.hid (hb12.alloc hb12.size (.cells #[.int .i64 5, .int .i32 0] 75))
                  have GG13 := Lib.hid (only_alloc (grown_step GG11.out hg12 GN9.out) (.cells #[.int .i64 5, .int .i32 0] 75))
                  have R13 := Lib.hid (World.ownsRow_nil (w12.alloc (.cells #[.int .i64 5, .int .i32 0] 75)) w0.heap.size 75 2)
                  have SRC := Lib.hid (src_two w12 (.int .i64 5) (.int .i32 0))
                  clear hno hb12 hg12 K12 KB HNB HCC HNO HGD2 HZL2 HFN HX1 BB11 R11 GG11 GN9
                  go_wp2_with (at_builtin; refine wpList_append_src rfl _ _ 24 rfl w0.heap.size 75 i0 (.agg #[.int .i64 0, .int .i32 0]) 2 16 Try.underlying24 hi0 hz0 hz1 hz2 rfl (by decide) _ 0 _ rfl (R13.out) _ 1 [.int .i64 5, .int .i32 0] rfl SRC.out (by simp [Value.oneCell']) (by unfold maxLen; omega) (by omega) (by have := HB13.out.size; omega) ?_; intro v14 w14 ho14 ha14; refine unstop ?_)
                  refine Stop.go ?_
                  have BB14 := Lib.hid (HB13.out.grown ha14.out.grown HB13.out.size (fun k hk => nomatch (show (none : Option Nat) = some k from hk)))
                  have GG14 := Lib.hid (grown_step GG13.out ha14.out.grown (fun g hg => nomatch (show (none : Option Nat) = some g from hg)))
                  clear ho14 ha14 SRC HB13 GG13 R13 e0 e1 lz
                  go_wp2_with fail
                  go_ret2
                  exact .inr ⟨HNO2.out, rfl, BB14.out, GG14.out⟩
          · cases hok : okOp (6, n) with
            | false =>
              have HNO : Hid (¬ (goodL ts ∧ x0.length + (flatL ts).length ≤ 60)) := Lib.hid (fun h => by have := (good_nest h3).1 (hgg h.1); rw [hok] at this; exact absurd this.2 (by decide))
              have HC := Lib.hid (fun W => limbk_for n B m bc false hok hg0 hg1 W)
              clear hft hgt hgg hsp hzt hic r1 e1 hrgk hfp hL h3 hok
              go_wp2_with fail
              refine (HC.out _).mono ?_
              rintro e w2 ⟨rfl, hb2⟩
              have BB2 := Lib.hid (BB.out.trans (hb2.mono BB.out.size))
              have GG2 := Lib.hid (only_trans GG.out (only_of_below hb2 (Value.slice U X uc).ownBlock))
              clear hb2 p0 p1 p2
              go_wp2_with fail
              go_ret2
              exact .inr ⟨HNO.out, rfl, BB2.out, GG2.out⟩
            | true =>
              have HC := Lib.hid (fun W => limbk_for n B m bc true hok hg0 hg1 W)
              by_cases hful : 60 ≤ n9
              · have HNO : Hid (¬ (goodL ts ∧ x0.length + (flatL ts).length ≤ 60)) := Lib.hid (fun h => by omega)
                have c1 : (60 : Int) ≤ (n9 : Int) := by omega
                clear hft hgt hgg hsp hzt hic r1 e1 hrgk hfp hL h3 hok
                go_wp2_with fail
                refine (HC.out _).mono ?_
                rintro e w2 ⟨rfl, hb2⟩
                have BB2 := Lib.hid (BB.out.trans (hb2.mono BB.out.size))
                have GG2 := Lib.hid (only_trans GG.out (only_of_below hb2 (Value.slice U X uc).ownBlock))
                clear hb2 p0 p1 p2
                go_wp2_with fail
                go_ret2
                exact .inr ⟨HNO.out, rfl, BB2.out, GG2.out⟩
              · have c1 : ¬ (60 : Int) ≤ (n9 : Int) := by omega
                have HHE : endOf 6 = (7, 0) := by decide
                have hfk : flatT (.mk 6 n kids) = (6, n) :: (flatL kids ++ [(7, 0)]) := by rw [flatT_nest h3, HHE]
                rw [hfk] at hsp
                simp only [List.length_cons, List.length_append, List.length_nil] at hsp
                have HGD2 : Hid (goodL kids → goodL (ts.take (i + 1))) := Lib.hid (fun h => hgt.2 ⟨HGD.out, (good_nest h3).2 ⟨h, hok⟩⟩)
                have HZL2 : Hid (sizeL kids = 0 ∨ n9 + 1 + sizeL kids ≤ 60 → sizeL (ts.take (i + 1)) = 0 ∨ x0.length + sizeL (ts.take (i + 1)) ≤ 60) := Lib.hid (fun h => .inr (by
                  have h1 := good_len HGD.out
                  have h2 := HN9.out
                  rw [← HXS.out, List.length_append] at h2
                  rw [hzt]
                  omega))
                have HNO : Hid (¬ (goodL kids ∧ n9 + 1 + (flatL kids).length ≤ 60) → ¬ (goodL ts ∧ x0.length + (flatL ts).length ≤ 60)) := Lib.hid (fun h1 h2 => h1 ⟨((good_nest h3).1 (hgg h2.1)).1, by
                  have h4 := HN9.out
                  rw [← HXS.out, List.length_append] at h4
                  omega⟩)
                have HFN : Hid (x0 ++ flatL (ts.take (i + 1)) = xs ++ [(6, n)] ++ flatL kids ++ [(7, 0)]) := Lib.hid (by rw [hft, hfk, ← List.append_assoc, HXS.out]; simp only [List.append_assoc, List.cons_append, List.nil_append])
                have HX1 : Hid ((xs ++ [(6, n)]).length = n9 + 1) := Lib.hid (by rw [List.length_append, HN9.out]; rfl)
                have HRC := Lib.hid (fun u W (hb : Below w0.heap.size w0 W) (hr : W.ownsRow w0.heap.size 75 2 u (n9 + 1) (slv (xs ++ [(6, n)]))) => hic (.slice B m bc) r1 (xs ++ [(6, n)]) u W (by rw [HX1.out]; omega) hb (by rw [HX1.out]; exact hr))
                have HKL := Lib.hid (flatL_len kids)
                clear hft hgt hgg hsp hzt hic r1 e1 hrgk hfp hL h3 hok HGD HZL HXS HHE hfk
                go_wp2_with fail
                refine (HC.out _).mono ?_
                rintro e w2 ⟨rfl, hb2⟩
                have BB2 := Lib.hid (BB.out.trans (hb2.mono BB.out.size))
                have R2 := Lib.hid (row_keep RW.out hb2)
                have GG2 := Lib.hid (only_trans GG.out (only_of_below hb2 (Value.slice U X uc).ownBlock))
                clear hb2 p0 p1 p2 BB RW HC GG
                go_wp2_with fail
                refine (head_loop 6 n B m bc _).mono ?_
                rintro e w3 ⟨rfl, hb3⟩
                have BB3 := Lib.hid (BB2.out.trans (hb3.mono BB2.out.size))
                have R3 := Lib.hid (row_keep R2.out hb3)
                have HB4 := Lib.hid (BB3.out.alloc BB3.out.size (.cells #[.int .i64 6, .int .i32 n] 75))
                have R4 := Lib.hid (R3.out.alloc (.cells #[.int .i64 6, .int .i32 n] 75))
                have SRC := Lib.hid (src_two w3 (.int .i64 6) (.int .i32 n))
                have GG4 := Lib.hid (only_alloc (only_trans GG2.out (only_of_below hb3 (Value.slice U X uc).ownBlock)) (.cells #[.int .i64 6, .int .i32 n] 75))
                clear hb3 BB2 R2 BB3 R3 GG2
                go_wp2_with (at_builtin; refine wpList_append_src rfl _ _ 24 rfl w0.heap.size 75 i0 (.agg #[.int .i64 0, .int .i32 0]) 2 16 Try.underlying24 hi0 hz0 hz1 hz2 rfl (by decide) _ n9 _ rfl (R4.out) _ 1 [.int .i64 6, .int .i32 n] rfl SRC.out (by simp [Value.oneCell']) (by unfold maxLen; omega) (by omega) (by have := HB4.out.size; omega) ?_; intro v9 w9 ho9 ha9; refine unstop ?_)
                refine Stop.go ?_
                have BB9 := Lib.hid (HB4.out.grown ha9.out.grown HB4.out.size (fun k hk => (World.ownsRow.lt R4.out k hk).1))
                obtain ⟨E9, ec9, rfl⟩ := own_formS ho9
                have R9 : Hid (w9.ownsRow w0.heap.size 75 2 (.slice E9 (n9 + 1) ec9) (n9 + 1) (slv (xs ++ [(6, n)]))) := Lib.hid (by rw [slv_app]; exact ho9)
                have GG9 := Lib.hid (grown_step GG4.out ha9.out.grown GN.out)
                have GN9 : Hid (∀ g, (Value.slice E9 (n9 + 1) ec9).ownBlock = some g → (Value.slice U X uc).ownBlock = some g ∨ w.heap.size ≤ g) := Lib.hid (fun g hg => (ha9.out.where9 g hg).elim (fun h => GN.out g h) (fun h => .inr (Nat.le_trans GG4.out.size h)))
                clear ho9 ha9 SRC HB4 R4 GG4 GN
                go_wp2_with fail
                refine (insidek_loop 6 n B m bc _).mono ?_
                rintro e w10 ⟨rfl, hb10⟩
                obtain ⟨W11, hW11⟩ : ∃ W, W = w10.alloc (.cells #[.int .i64 7, .int .i32 0] 75) := ⟨_, rfl⟩
                have b11 : Below w9.heap.size w9 W11 := by rw [hW11]; exact hb10.alloc hb10.size _
                have K11 : Blk W11 w10.heap.size 75 #[.int .i64 7, .int .i32 0] := by rw [hW11]; exact Blk.new w10 _ _
                have BB11 := Lib.hid (BB9.out.trans (b11.mono BB9.out.size))
                have R11 := Lib.hid (row_keep R9.out b11)
                have GG11 := Lib.hid (only_trans GG9.out (only_of_below b11 (Value.slice U X uc).ownBlock))
                have HNB : Hid (some w10.heap.size ≠ (Value.slice E9 (n9 + 1) ec9).ownBlock) := Lib.hid (fun e => by have := (World.ownsRow.lt R9.out _ e.symm).2; have := hb10.size; omega)
                have KB := Lib.hid K11
                have HW11 := Lib.hid hW11
                have HCC := Lib.hid (HRC.out (.slice E9 (n9 + 1) ec9) W11 BB11.out R11.out)
                clear hb10 BB9 R9 GG9 b11 K11 hW11 HRC
                go_upto_region 9 with (fail)
                rw [← HW11.out]
                clear HW11
                go_wp2_with fail
                refine HCC.out.mono ?_
                rintro e w12 (⟨hgk, hzk, u12, rfl, ho12, hb12, hg12, hn12⟩ | ⟨hno, rfl, hb12, hg12⟩)
                · have K12 := Lib.hid (KB.out.grown hg12 HNB.out)
                  obtain ⟨V12, vc12, rfl⟩ := own_formS ho12
                  have HGD3 := Lib.hid (HGD2.out hgk)
                  have HZL3 := Lib.hid (HZL2.out (by rw [HX1.out] at hzk; exact hzk))
                  have hkl : (flatL kids).length ≤ 120 := by
                    have h1 := HKL.out
                    rw [HX1.out] at hzk
                    omega
                  have GN12 : Hid (∀ g, (Value.slice V12 ((xs ++ [(6, n)]) ++ flatL kids).length vc12).ownBlock = some g → (Value.slice U X uc).ownBlock = some g ∨ w.heap.size ≤ g) := Lib.hid (fun g hg => (hn12 g hg).elim (fun h => GN9.out g h) (fun h => .inr (Nat.le_trans GG11.out.size h)))
                  have GG12 := Lib.hid (grown_step GG11.out hg12 GN9.out)
                  obtain ⟨ys, hys⟩ : ∃ ys, (xs ++ [(6, n)]) ++ flatL kids = ys := ⟨_, rfl⟩
                  have hyl : ys.length = n9 + 1 + (flatL kids).length := by rw [← hys, List.length_append, HX1.out]
                  rw [hys] at ho12 HFN GN12 ⊢
                  obtain ⟨n12, hn12'⟩ : ∃ n12, ys.length = n12 := ⟨_, rfl⟩
                  have HN12 := Lib.hid hn12'
                  rw [hn12'] at ho12 GN12 hyl ⊢
                  have hn12b : n12 ≤ 400 := by omega
                  have e0 : w12.cell? ⟨w10.heap.size, 0, none⟩ = some (.int .i64 7) := K12.out.cell 0
                  have e1 : w12.cell? ⟨w10.heap.size, 1, none⟩ = some (.int .i32 0) := K12.out.cell 1
                  have lz : w10.heap.size < w12.heap.size := K12.out.lt
                  have HB13 := Lib.hid (hb12.alloc hb12.size (.cells #[.int .i64 7, .int .i32 0] 75))
                  have R13 := Lib.hid (ho12.alloc (.cells #[.int .i64 7, .int .i32 0] 75))
                  have GG13 := Lib.hid (only_alloc GG12.out (.cells #[.int .i64 7, .int .i32 0] 75))
                  have SRC := Lib.hid (src_two w12 (.int .i64 7) (.int .i32 0))
                  clear hgk hzk ho12 hb12 hg12 hn12 K12 KB HNB HCC HNO HGD2 HZL2 HX1 BB11 R11 GG11 GN9 GG12 hys hyl hn12' hkl
                  go_wp2_with (at_builtin; refine wpList_append_src rfl _ _ 24 rfl w0.heap.size 75 i0 (.agg #[.int .i64 0, .int .i32 0]) 2 16 Try.underlying24 hi0 hz0 hz1 hz2 rfl (by decide) _ n12 _ rfl (R13.out) _ 1 [.int .i64 7, .int .i32 0] rfl SRC.out (by simp [Value.oneCell']) (by unfold maxLen; omega) (by omega) (by have := HB13.out.size; omega) ?_; intro v14 w14 ho14 ha14; refine unstop ?_)
                  refine Stop.go ?_
                  have BB14 := Lib.hid (HB13.out.grown ha14.out.grown HB13.out.size (fun k hk => (World.ownsRow.lt R13.out k hk).1))
                  have GG14 := Lib.hid (grown_step GG13.out ha14.out.grown GN12.out)
                  have GN14 : Hid (∀ g, v14.ownBlock = some g → (Value.slice U X uc).ownBlock = some g ∨ w.heap.size ≤ g) := Lib.hid (fun g hg => (ha14.out.where9 g hg).elim (fun h => GN12.out g h) (fun h => .inr (Nat.le_trans GG13.out.size h)))
                  have R14 : Hid (w14.ownsRow w0.heap.size 75 2 v14 (x0 ++ flatL (ts.take (i + 1))).length (slv (x0 ++ flatL (ts.take (i + 1))))) := Lib.hid (by
                    rw [HFN.out, List.length_append, HN12.out, slv_app]
                    exact ho14)
                  clear ho14 ha14 SRC HB13 GG13 R13 e0 e1 lz GN12 HN12 HFN
                  go_wp2_with fail
                  go_roundw
                  case rel => exact ⟨i + 1, v14, by go_num, rfl, by omega, HGD3, HZL3, R14, BB14, GN14, GG14⟩
                  case measure => simp [intOf]; omega
                · have HNO2 := Lib.hid (HNO.out (by rw [HX1.out] at hno; exact hno))
                  have K12 := Lib.hid (KB.out.grown hg12 HNB.out)
                  have e0 : w12.cell? ⟨w10.heap.size, 0, none⟩ = some (.int .i64 7) := K12.out.cell 0
                  have e1 : w12.cell? ⟨w10.heap.size, 1, none⟩ = some (.int .i32 0) := K12.out.cell 1
                  have lz : w10.heap.size < w12.heap.size := K12.out.lt
                  have HB13 := Lib.hid (hb12.alloc hb12.size (.cells #[.int .i64 7, .int .i32 0] 75))
                  have GG13 := Lib.hid (only_alloc (grown_step GG11.out hg12 GN9.out) (.cells #[.int .i64 7, .int .i32 0] 75))
                  have R13 := Lib.hid (World.ownsRow_nil (w12.alloc (.cells #[.int .i64 7, .int .i32 0] 75)) w0.heap.size 75 2)
                  have SRC := Lib.hid (src_two w12 (.int .i64 7) (.int .i32 0))
                  clear hno hb12 hg12 K12 KB HNB HCC HNO HGD2 HZL2 HFN HX1 BB11 R11 GG11 GN9
                  go_wp2_with (at_builtin; refine wpList_append_src rfl _ _ 24 rfl w0.heap.size 75 i0 (.agg #[.int .i64 0, .int .i32 0]) 2 16 Try.underlying24 hi0 hz0 hz1 hz2 rfl (by decide) _ 0 _ rfl (R13.out) _ 1 [.int .i64 7, .int .i32 0] rfl SRC.out (by simp [Value.oneCell']) (by unfold maxLen; omega) (by omega) (by have := HB13.out.size; omega) ?_; intro v14 w14 ho14 ha14; refine unstop ?_)
                  refine Stop.go ?_
                  have BB14 := Lib.hid (HB13.out.grown ha14.out.grown HB13.out.size (fun k hk => nomatch (show (none : Option Nat) = some k from hk)))
                  have GG14 := Lib.hid (grown_step GG13.out ha14.out.grown (fun g hg => nomatch (show (none : Option Nat) = some g from hg)))
                  clear ho14 ha14 SRC HB13 GG13 R13 e0 e1 lz
                  go_wp2_with fail
                  go_ret2
                  exact .inr ⟨HNO2.out, rfl, BB14.out, GG14.out⟩
        by_cases h57 : k = 5 ∨ k = 7
        · have HNO : Hid (¬ (goodL ts ∧ x0.length + (flatL ts).length ≤ 60)) := Lib.hid (fun h => by have := (good_leaf h3).1 (hgg h.1); omega)
          clear hft hgt hgg hsp hzt hic r1 e1 hrgk hfp hL h3
          rcases h57 with rfl | rfl
          · go_wp2_with fail
            refine (limbk_end5 n B m bc _).mono ?_
            rintro e w2 ⟨rfl, hb2⟩
            have BB2 := Lib.hid (BB.out.trans (hb2.mono BB.out.size))
            have GG2 := Lib.hid (only_trans GG.out (only_of_below hb2 (Value.slice U X uc).ownBlock))
            clear hb2 p0 p1 p2
            go_wp2_with fail
            go_ret2
            exact .inr ⟨HNO.out, rfl, BB2.out, GG2.out⟩
          · go_wp2_with fail
            refine (limbk_end7 n B m bc _).mono ?_
            rintro e w2 ⟨rfl, hb2⟩
            have BB2 := Lib.hid (BB.out.trans (hb2.mono BB.out.size))
            have GG2 := Lib.hid (only_trans GG.out (only_of_below hb2 (Value.slice U X uc).ownBlock))
            clear hb2 p0 p1 p2
            go_wp2_with fail
            go_ret2
            exact .inr ⟨HNO.out, rfl, BB2.out, GG2.out⟩
        have hk5 : k ≠ 3 ∧ k ≠ 4 ∧ k ≠ 5 ∧ k ≠ 6 ∧ k ≠ 7 := by omega
        cases hok : okOp (k, n) with
        | false =>
          have HNO : Hid (¬ (goodL ts ∧ x0.length + (flatL ts).length ≤ 60)) := Lib.hid (fun h => by have := (good_leaf h3).1 (hgg h.1); rw [hok] at this; exact absurd this.2.2 (by decide))
          have HC := Lib.hid (fun W => limbk_leaf_false k n B m bc hk5 hok hg0 hg1 W)
          clear hft hgt hgg hsp hzt hic r1 e1 hrgk hfp hL h3 h57 hk5 hok
          go_wp2_with fail
          refine (HC.out _).mono ?_
          rintro e w2 ⟨rfl, hb2⟩
          have BB2 := Lib.hid (BB.out.trans (hb2.mono BB.out.size))
          have GG2 := Lib.hid (only_trans GG.out (only_of_below hb2 (Value.slice U X uc).ownBlock))
          clear hb2 p0 p1 p2
          go_wp2_with fail
          go_ret2
          exact .inr ⟨HNO.out, rfl, BB2.out, GG2.out⟩
        | true =>
          by_cases hm : m = 0
          · subst hm
            have hkids : kids = [] := List.eq_nil_of_length_eq_zero e1.symm
            have HC := Lib.hid (fun W => limbk_leaf_true k n B bc hk5 hok hg0 hg1 W)
            by_cases hful : 60 ≤ n9
            · have HNO : Hid (¬ (goodL ts ∧ x0.length + (flatL ts).length ≤ 60)) := Lib.hid (fun h => by omega)
              have c1 : (60 : Int) ≤ (n9 : Int) := by omega
              clear hft hgt hgg hsp hzt hic r1 e1 hrgk hfp hL h3 h57 hk5 hok hkids
              go_wp2_with fail
              refine (HC.out _).mono ?_
              rintro e w2 ⟨rfl, hb2⟩
              have BB2 := Lib.hid (BB.out.trans (hb2.mono BB.out.size))
              have GG2 := Lib.hid (only_trans GG.out (only_of_below hb2 (Value.slice U X uc).ownBlock))
              clear hb2 p0 p1 p2
              go_wp2_with fail
              go_ret2
              exact .inr ⟨HNO.out, rfl, BB2.out, GG2.out⟩
            · have c1 : ¬ (60 : Int) ≤ (n9 : Int) := by omega
              have HGD2 : Hid (goodL (ts.take (i + 1))) := Lib.hid (hgt.2 ⟨HGD.out, (good_leaf h3).2 ⟨⟨hk5.2.2.1, hk5.2.2.2.2⟩, hkids, hok⟩⟩)
              have HZL2 : Hid (sizeL (ts.take (i + 1)) = 0 ∨ x0.length + sizeL (ts.take (i + 1)) ≤ 60) := Lib.hid (.inr (by
                have h1 := good_len HGD.out
                have h2 := HN9.out
                rw [← HXS.out, List.length_append] at h2
                rw [hzt, hkids]
                simp only [sizeL]
                omega))
              have HFN : Hid (x0 ++ flatL (ts.take (i + 1)) = xs ++ [(k, n)]) := Lib.hid (by rw [hft, flatT_leaf h3, ← List.append_assoc, HXS.out])
              clear hft hgt hgg hsp hzt hic r1 e1 hrgk hfp hL h3 h57 hk5 hok hkids HGD HZL HXS
              go_wp2_with fail
              refine (HC.out _).mono ?_
              rintro e w2 ⟨rfl, hb2⟩
              have BB2 := Lib.hid (BB.out.trans (hb2.mono BB.out.size))
              have R2 := Lib.hid (row_keep RW.out hb2)
              have GG2 := Lib.hid (only_trans GG.out (only_of_below hb2 (Value.slice U X uc).ownBlock))
              clear hb2 p0 p1 p2 BB RW HC GG
              go_wp2_with fail
              refine (head_leaf k n _).mono ?_
              rintro e w3 ⟨rfl, hb3⟩
              have BB3 := Lib.hid (BB2.out.trans (hb3.mono BB2.out.size))
              have R3 := Lib.hid (row_keep R2.out hb3)
              have HB4 := Lib.hid (BB3.out.alloc BB3.out.size (.cells #[.int .i64 k, .int .i32 n] 75))
              have R4 := Lib.hid (R3.out.alloc (.cells #[.int .i64 k, .int .i32 n] 75))
              have SRC := Lib.hid (src_two w3 (.int .i64 k) (.int .i32 n))
              have GG4 := Lib.hid (only_alloc (only_trans GG2.out (only_of_below hb3 (Value.slice U X uc).ownBlock)) (.cells #[.int .i64 k, .int .i32 n] 75))
              clear hb3 BB2 R2 BB3 R3 GG2
              go_wp2_with (at_builtin; refine wpList_append_src rfl _ _ 24 rfl w0.heap.size 75 i0 (.agg #[.int .i64 0, .int .i32 0]) 2 16 Try.underlying24 hi0 hz0 hz1 hz2 rfl (by decide) _ n9 _ rfl (R4.out) _ 1 [.int .i64 k, .int .i32 n] rfl SRC.out (by simp [Value.oneCell']) (by unfold maxLen; omega) (by omega) (by have := HB4.out.size; omega) ?_; intro v9 w9 ho9 ha9; refine unstop ?_)
              refine Stop.go ?_
              have BB9 := Lib.hid (HB4.out.grown ha9.out.grown HB4.out.size (fun k hk => (World.ownsRow.lt R4.out k hk).1))
              have R9 := Lib.hid ho9
              have GG9 := Lib.hid (grown_step GG4.out ha9.out.grown GN.out)
              have GN9 : Hid (∀ g, v9.ownBlock = some g → (Value.slice U X uc).ownBlock = some g ∨ w.heap.size ≤ g) := Lib.hid (fun g hg => (ha9.out.where9 g hg).elim (fun h => GN.out g h) (fun h => .inr (Nat.le_trans GG4.out.size h)))
              clear ho9 ha9 SRC HB4 R4 GG4 GN
              go_wp2_with fail
              refine (inside_leaf k n _).mono ?_
              rintro e w10 ⟨rfl, hb10⟩
              have BB10 := Lib.hid (BB9.out.trans (hb10.mono BB9.out.size))
              have BB11 := Lib.hid (BB10.out.alloc BB10.out.size (.cells #[.int .i64 0, .int .i32 0] 75))
              have R11 : Hid ((w10.alloc (.cells #[.int .i64 0, .int .i32 0] 75)).ownsRow w0.heap.size 75 2 v9 (x0 ++ flatL (ts.take (i + 1))).length (slv (x0 ++ flatL (ts.take (i + 1))))) := Lib.hid (by
                rw [HFN.out, List.length_append, HN9.out, slv_app]
                exact (row_keep R9.out hb10).alloc _)
              have GG11 := Lib.hid (only_alloc (only_trans GG9.out (only_of_below hb10 (Value.slice U X uc).ownBlock)) (.cells #[.int .i64 0, .int .i32 0] 75))
              clear hb10 BB9 R9 BB10 HN9 HFN GG9
              go_wp2_with fail
              go_roundw
              case rel => exact ⟨i + 1, v9, by go_num, rfl, by omega, HGD2, HZL2, R11, BB11, GN9, GG11⟩
              case measure => simp [intOf]; omega
          · have HNO : Hid (¬ (goodL ts ∧ x0.length + (flatL ts).length ≤ 60)) := Lib.hid (fun h => by have := ((good_leaf h3).1 (hgg h.1)).2.1; rw [this] at e1; exact hm e1)
            have HC := Lib.hid (fun W => limbk_leaf_kids k n B m bc hk5 hok hg0 hg1 hm W)
            clear hft hgt hgg hsp hzt hic r1 e1 hrgk hfp hL h3 h57 hk5 hok
            go_wp2_with fail
            refine (HC.out _).mono ?_
            rintro e w2 ⟨rfl, hb2⟩
            have BB2 := Lib.hid (BB.out.trans (hb2.mono BB.out.size))
            have GG2 := Lib.hid (only_trans GG.out (only_of_below hb2 (Value.slice U X uc).ownBlock))
            clear hb2 p0 p1 p2
            go_wp2_with fail
            go_ret2
            exact .inr ⟨HNO.out, rfl, BB2.out, GG2.out⟩
      · obtain rfl : i = N := by omega
        have HGE : Hid (goodL ts) := Lib.hid (by rw [← HTL.out]; exact HGD.out)
        have HZE : Hid (sizeL ts = 0 ∨ x0.length + sizeL ts ≤ 60) := Lib.hid (by have := HZL.out; rw [HTL.out] at this; exact this)
        have HXE : Hid (x0 ++ flatL ts = xs) := Lib.hid (by have := HXS.out; rw [HTL.out] at this; exact this)
        have hp2 : ¬ (i : Int) < (i : Int) := by omega
        clear hi HGD HZL HXS
        go_wp2_with fail
        go_ret2
        exact .inl ⟨HGE.out, HZE.out, _, rfl, by rw [HXE.out, HN9.out]; exact RW.out, BB.out, GG.out, GN.out⟩
end Go.Proofs.Ytlkkobffgbjkpaa
